/-
  sclaw5.IndexTells answers true for every disk, index, entry, key, version and number of pairs.
  Condition: the program's index keeps its contracts (premises); the entry's pair is a number of the machine's.
-/
import Derived.Test.YtppgbgfahifanaaIdxSet
import Derived.Deep.DeepCutAuto
namespace Go.Proofs.Ytppgbgfahifanaa
set_option maxRecDepth 100000
open Go.RowKit
open Go.Proofs.Ytppgbgfahifanaa.Plain Go.Proofs.Ytppgbgfahifanaa.Reg

theorem upon_step {P : Program} {w w' : World} {R : Value → World → Prop} {o : Oper} {ev : Operand → Value} {v : Value} (h : (execOp ev o).run P w = .ok (.value v) w') (hg : Grow w w') (hv : R v w') : upon P w R ((execOp ev o).run P w) := by
  rw [h]; exact ⟨hg, hv⟩
def EntsP (w : World) (v : Value) (l : List Ent) : Prop := EntsS (fun _ => True) w v l
theorem EntsP.of {S : Nat → Prop} {w : World} {v : Value} {l : List Ent} (h : EntsS S w v l) : EntsP w v l := h.mono fun _ _ => trivial
theorem EntsP.s {w : World} {v : Value} {l : List Ent} (h : EntsP w v l) : EntsS (fun b => b < w.heap.size) w v l := SliceS.all h (by decide)
theorem st_entsp (l : List Ent) : Stable (fun v w => EntsP w v l) := fun _ _ _ hg h => SliceS.grow h hg

theorem run_sub (w : World) (ev : Operand → Value) (o : Oper) (s x y : Operand) (ho : o.op = Op.slice 69 s (some x) (some y) none) (b off n lc j : Nat) (hj : j < n) (hn : n ≤ lc) (h1 : ev s = .slice (some ⟨b, off, none⟩) n lc) (h2 : ev x = .int .i64 (j : Int)) (h3 : ev y = .int .i64 ((j : Int) + 1)) :
    (execOp ev o).run Try.prog w = .ok (.value (.slice (some ⟨b, off + j * 5, none⟩) 1 (lc - j))) w := by
  unfold execOp
  rw [ho]
  go_simp
  rw [if_pos (by omega), if_neg (by omega)]
theorem slice_caple {α : Type} {sh : Shape α} {S : Nat → Prop} {w : World} {ao : Option Addr} {n cap : Nat} {xs : List α} (h : SliceS sh S w (.slice ao n cap) xs) : xs.length ≤ cap := by
  rcases h with ⟨_, _, _, rfl, _⟩ | ⟨_, _, _, _, h2, h3, _⟩
  · simp
  · cases h2; exact h3
theorem ents_one {S : Nat → Prop} {w : World} {b off n cap : Nat} {l : List Ent} (h : EntsS S w (.slice (some ⟨b, off, none⟩) n cap) l) (i : Nat) (hi : i < l.length) : EntsS S w (.slice (some ⟨b, off + i * 5, none⟩) 1 (cap - i)) [l[i]] := by
  have hc := slice_caple h
  have h1 := h.sub i (i + 1) (by omega) (by omega) (cap - i) (by omega)
  have e1 : i + 1 - i = 1 := by omega
  have e2 : (l.drop i).take 1 = [l[i]] := by rw [List.drop_eq_getElem_cons hi]; rfl
  rw [e1, e2] at h1
  exact h1


set_option maxHeartbeats 20000000 in
theorem indexTells_of (HOC : IOwnC) (HSC : IScanC) (HFC : IFreeC) (HAC : IAddC) (HDC : IDropC) (HLC : ILastC) (HNC : IFindC) (d : Dk) (vb vl : Value) (S : Nat → Prop) (l : List Ent) (e : Ent) (v : Value) (ea : Option Addr) (ec : Nat) (key ver pairs : Int) (w : World)
    (hb : BlocksP w vb d.blocks) (hlt : LateP w vl d.late) (hl0 : EntsS S w v l) (he : Bytes w (.slice ea e.rc.data.length ec) e.rc.data) (hm : l.length ≤ 140737488355328) (hep : (Lit.int .i64 e.pair).wf = true) :
    Calls Try.prog 14 #[.agg #[vb, vl], v, .agg #[.int .i64 e.rc.kind, .int .i64 e.rc.key, .int .i64 e.rc.ver, .slice ea e.rc.data.length ec, .int .i64 e.pair], .int .i64 key, .int .i64 ver, .int .i64 pairs] w fun r w' => r = .returned (.bool true) ∧ Grow w w' := by
  have hl := hl0.all (by decide)
  clear hl0
  obtain ⟨lo, lc, rfl⟩ := hl.form
  obtain ⟨ab, cb, rfl⟩ := hb.form
  obtain ⟨al, cl, rfl⟩ := hlt.form
  have hd : DiskP d (.agg #[.slice ab d.blocks.length cb, .slice al d.late.length cl]) w := ⟨_, _, rfl, hb, hlt⟩
  have gW := grow_alloc2 w (.cells #[.slice ab d.blocks.length cb, .slice al d.late.length cl] 46) (.cells #[.int .i64 e.rc.kind, .int .i64 e.rc.key, .int .i64 e.rc.ver, .slice ea e.rc.data.length ec, .int .i64 e.pair] 71)
  have hD0 := ((grow_alloc (w.alloc (.cells #[.slice ab d.blocks.length cb, .slice al d.late.length cl] 46)) (.cells #[.int .i64 e.rc.kind, .int .i64 e.rc.key, .int .i64 e.rc.ver, .slice ea e.rc.data.length ec, .int .i64 e.pair] 71)).block _ (by simp)).trans (heap_new w #[.slice ab d.blocks.length cb, .slice al d.late.length cl] 46)
  have hE0 := heap_new (w.alloc (.cells #[.slice ab d.blocks.length cb, .slice al d.late.length cl] 46)) #[.int .i64 e.rc.kind, .int .i64 e.rc.key, .int .i64 e.rc.ver, .slice ea e.rc.data.length ec, .int .i64 e.pair] 71
  rw [World.size_alloc] at hE0
  clear hb hlt
  have hdn : d.right = true → d.Fine 40 := Dk.right_fine
  go_enter Try.func14, Try.ntmps14
  go_upto_region 1 with fail
  go_cut [33] (fun c wx => c = .bool false ∧ Grow w wx ∧ wx.heap[w.heap.size + 1]? = some (.cells #[.int .i64 e.rc.kind, .int .i64 e.rc.key, .int .i64 e.rc.ver, .slice ea e.rc.data.length ec, .int .i64 e.pair] 71 (0, 0)))
  case rest =>
    obtain ⟨rfl, gw, hE⟩ := hcut
    have hl1 := (hl.grow gw).all (by decide)
    clear hD0 hE0 gW hd hdn
    go_wp2_with fail
    refine (rrightI_any _ l _ _ hl1 hm).mono ?_
    cases hrl : rightI l with
    | false =>
      rintro r w2 ⟨rfl, g2⟩
      have gE := gw.trans g2
      go_wp2_with fail
      go_ret
      exact ⟨rfl, gE⟩
    | true =>
      have HRL : Hid (rightI l = true) := hrl
      have HGD : Hid (∀ x ∈ l, Good x) := ((rightI_iff l).1 hrl).2
      have hln : l.length ≤ 1001 := right_len hrl
      clear hrl hm
      rintro r w2 ⟨rfl, g2⟩
      by_cases hpp : 1000 < pairs
      · have gE := gw.trans g2
        go_wp2_with fail
        go_ret
        exact ⟨rfl, gE⟩
      · have hpp' : pairs ≤ 1000 := by omega
        clear hpp
        replace gw := gw.trans g2
        replace hE := (g2.block _ (heap_lt hE)).trans hE
        replace hl1 := (hl1.grow g2).all (by decide)
        clear g2
        have hmm := @run_makeMap Try.prog
        go_wp2_with fail
        clear hmm
        have gM := grow_alloc w2 (.map #[] 0)
        have hM0 := SetB.made w2
        have hE1 := (gM.block _ (heap_lt hE)).trans hE
        have hl2 := hl1.grow gM
        obtain ⟨W2, hW2⟩ : ∃ W2, W2 = w2.alloc (.map #[] 0) := ⟨_, rfl⟩
        rw [← hW2] at gM hM0 hE1 hl2 ⊢
        have gWM := gw.trans gM
        have hBM : w2.heap.size + 1 ≤ W2.heap.size := by rw [hW2]; simp
        have HEL : Hid (w.heap.size + 1 < w2.heap.size) := heap_lt hE
        clear hW2 gM hE gw
        generalize hg2 : w2.heap.size = g2 at *
        clear hg2 hl1
        go_loopw [14, 15, 16, 44] (fun o la fo i wr => ∃ (k : Nat) (css : List (List Value)) (La Fo : Int), k ≤ l.length ∧ i = .int .i64 k ∧ la = .int .i64 La ∧ fo = .int .i64 Fo ∧ Hid (LastIs l key k La) ∧ Hid (FoundIs l key ver k Fo) ∧ OutR entShape (fun b => b < g2) (g2 + 1) o (dropE (l.take k) e.pair) css wr ∧ SetB wr g2 k (usedB (l.take k)) ∧ Grow w wr ∧ wr.heap[w.heap.size + 1]? = some (.cells #[.int .i64 e.rc.kind, .int .i64 e.rc.key, .int .i64 e.rc.ver, .slice ea e.rc.data.length ec, .int .i64 e.pair] 71 (0, 0)) ∧ EntsS (fun b => b < g2) wr (.slice lo l.length lc) l) (fun _ _ _ i _ => l.length - (intOf i).toNat)
        case atStart => exact ⟨0, [], -1, -1, Nat.zero_le _, rfl, rfl, rfl, .inl ⟨rfl, rfl⟩, .inl ⟨rfl, rfl⟩, OutR.nil _ _ _ _, hM0.on (fun _ => rfl) (by omega), gWM, hE1, hl2⟩
        case round =>
          clear hM0 gWM hE1 hl2 hBM
          obtain ⟨k, css, La, Fo, hk, rfl, rfl, rfl, HLs, HFd, hR, hM, gw, hE, hlr⟩ := hrel
          by_cases hlt : k < l.length
          · obtain ⟨b, off, a1, c1, hv1, q0, q1, q2, q3, q4, hu⟩ := ents_at hlr k hlt
            cases hv1
            have HSTEP : Hid ((l[k].rc.key ≠ key → LastIs l key (k + 1) La) ∧ (l[k].rc.key = key → LastIs l key (k + 1) (k : Int)) ∧ (¬ (l[k].rc.key = key ∧ l[k].rc.ver = ver) → FoundIs l key ver (k + 1) Fo) ∧ (0 ≤ Fo → FoundIs l key ver (k + 1) Fo) ∧ (l[k].rc.key = key ∧ l[k].rc.ver = ver → Fo < 0 → FoundIs l key ver (k + 1) (k : Int))) :=
              ⟨fun h => last_miss hlt h HLs.out, fun h => last_hit hlt h, fun h => found_miss hlt h HFd.out, fun h => found_kept hlt HFd.out h, fun h h2 => found_hit hlt h HFd.out h2⟩
            have HDN : Hid (dropE (l.take (k + 1)) e.pair = dropE (l.take k) e.pair ++ (if l[k].pair = e.pair then [] else [l[k]])) := drop_next l e.pair k hlt
            have HUS : Hid (∀ y, (decide (y = l[k].pair) || usedB (l.take k) y) = usedB (l.take (k + 1)) y) := used_next l k hlt
            have HGX : Hid (Good l[k]) := HGD.out _ (List.getElem_mem _)
            have HZL : Hid ((dropE (l.take k) e.pair).length ≤ k) := by
              show _ ≤ k
              unfold dropE
              exact Nat.le_trans (List.length_filter_le _ _) (by rw [List.length_take]; omega)
            have hFb := HFd.out.bd
            generalize l[k] = x at *
            generalize dropE (l.take k) e.pair = zs at *
            have hzl : zs.length ≤ k := HZL.out
            obtain ⟨a0, c0, rfl⟩ := hR.form
            have HNE : Hid (some wr.heap.size ≠ (Value.slice a0 zs.length c0).ownBlock) := row_ge hR.row (Nat.le_refl _)
            have g1 := grow_alloc wr (.cells #[.int .i64 x.rc.kind, .int .i64 x.rc.key, .int .i64 x.rc.ver, .slice a1 x.rc.data.length c1, .int .i64 x.pair] 71)
            have hX1 := heap_new wr #[.int .i64 x.rc.kind, .int .i64 x.rc.key, .int .i64 x.rc.ver, .slice a1 x.rc.data.length c1, .int .i64 x.pair] 71
            obtain ⟨w3, hrun, hM3, hb3⟩ := (hM.grow g1).put x.pair (wf_small HGX.out.2.2.1 (by have := HGX.out.2.2.2; omega)) (by omega)
            have HLT : Hid (g2 < wr.heap.size) := hM.lt
            have hX3 := (hb3.block _ (heap_lt hX1) (by have := HLT.out; omega)).trans hX1
            have hE3 := (hb3.block _ (heap_lt ((g1.block _ (heap_lt hE)).trans hE)) (by have := HEL.out; omega)).trans ((g1.block _ (heap_lt hE)).trans hE)
            have hR3 := (hR.grow g1).other hb3 (by omega) (by omega)
            have hl3 := (hlr.grow g1).but hb3 (by omega)
            have hu3 := (hu.grow g1).but hb3 (by omega)
            have gw3 := hb3.grow (gw.trans g1) (by have := HEL.out; omega)
            have HSZ : Hid (g2 + 1 ≤ w3.heap.size) := hM3.lt
            have x0 := box_cell hX3 0 _ rfl
            have x1 := box_cell hX3 1 _ rfl
            have x2 := box_cell hX3 2 _ rfl
            have x3 := box_cell hX3 3 _ rfl
            have x4 := box_cell hX3 4 _ rfl
            have e4 := box_cell hE3 4 _ rfl
            have y4 := box_cell hX1 4 _ rfl
            clear hX1 hM hE hR hlr hu gw g1 hb3 HLs HFd HGX HZL
            by_cases hp : x.pair = e.pair
            · have dp : (x.pair != e.pair) = false := by simp [hp]
              have HDR : Hid (dropE (l.take (k + 1)) e.pair = zs) := by show _ = _; rw [HDN.out, if_pos hp, List.append_nil]
              clear hp HDN
              by_cases hy : x.rc.key = key
              · by_cases hv : x.rc.ver = ver
                · by_cases hf : Fo < 0
                  · have HLa : Hid (LastIs l key (k + 1) (k : Int)) := HSTEP.out.2.1 hy
                    have dy : (x.rc.key == key) = true := by simp [hy]
                    have HFo : Hid (FoundIs l key ver (k + 1) (k : Int)) := HSTEP.out.2.2.2.2 ⟨hy, hv⟩ hf
                    have dv : (x.rc.ver == ver) = true := by simp [hv]
                    clear HSTEP hy hv
                    go_wp2_with fail
                    go_roundw
                    case rel => exact ⟨k + 1, css, _, _, by omega, by go_num, rfl, rfl, HLa, HFo, by rw [HDR.out]; exact hR3, hM3.on HUS.out (by omega), gw3, hE3, hl3⟩
                    case measure => simp [intOf]; omega
                  · have HLa : Hid (LastIs l key (k + 1) (k : Int)) := HSTEP.out.2.1 hy
                    have dy : (x.rc.key == key) = true := by simp [hy]
                    have HFo : Hid (FoundIs l key ver (k + 1) Fo) := HSTEP.out.2.2.2.1 (by omega)
                    have dv : (x.rc.ver == ver) = true := by simp [hv]
                    clear HSTEP hy hv
                    go_wp2_with fail
                    go_roundw
                    case rel => exact ⟨k + 1, css, _, _, by omega, by go_num, rfl, rfl, HLa, HFo, by rw [HDR.out]; exact hR3, hM3.on HUS.out (by omega), gw3, hE3, hl3⟩
                    case measure => simp [intOf]; omega
                · have HLa : Hid (LastIs l key (k + 1) (k : Int)) := HSTEP.out.2.1 hy
                  have dy : (x.rc.key == key) = true := by simp [hy]
                  have HFo : Hid (FoundIs l key ver (k + 1) Fo) := HSTEP.out.2.2.1 (fun h => hv h.2)
                  have dv : (x.rc.ver == ver) = false := by simp [hv]
                  clear HSTEP hy hv
                  go_wp2_with fail
                  go_roundw
                  case rel => exact ⟨k + 1, css, _, _, by omega, by go_num, rfl, rfl, HLa, HFo, by rw [HDR.out]; exact hR3, hM3.on HUS.out (by omega), gw3, hE3, hl3⟩
                  case measure => simp [intOf]; omega
              · have HLa : Hid (LastIs l key (k + 1) La) := HSTEP.out.1 hy
                have HFo : Hid (FoundIs l key ver (k + 1) Fo) := HSTEP.out.2.2.1 (fun h => hy h.1)
                have dy : (x.rc.key == key) = false := by simp [hy]
                clear HSTEP hy
                go_wp2_with fail
                go_roundw
                case rel => exact ⟨k + 1, css, _, _, by omega, by go_num, rfl, rfl, HLa, HFo, by rw [HDR.out]; exact hR3, hM3.on HUS.out (by omega), gw3, hE3, hl3⟩
                case measure => simp [intOf]; omega
            · have dp : (x.pair != e.pair) = true := by simp [hp]
              have HDR : Hid (dropE (l.take (k + 1)) e.pair = zs ++ [x]) := by show _ = _; rw [HDN.out, if_neg hp]
              obtain ⟨i0, hif, hz0, hz1, hz2⟩ := info_parts info_ent
              clear hp HDN
              by_cases hy : x.rc.key = key
              · by_cases hv : x.rc.ver = ver
                · by_cases hf : Fo < 0
                  · have HLa : Hid (LastIs l key (k + 1) (k : Int)) := HSTEP.out.2.1 hy
                    have dy : (x.rc.key == key) = true := by simp [hy]
                    have HFo : Hid (FoundIs l key ver (k + 1) (k : Int)) := HSTEP.out.2.2.2.2 ⟨hy, hv⟩ hf
                    have dv : (x.rc.ver == ver) = true := by simp [hv]
                    clear HSTEP hy hv
                    go_wp2_with (first | (at_builtin; refine wpList_append_own _ rfl (.tmp 57) (.tmp 59) 69 rfl (g2 + 1) 71 i0 (.agg #[.int .i64 0, .int .i64 0, .int .i64 0, .slice none 0 0, .int .i64 0]) 5 56 Try.underlying69 hif hz0 hz1 hz2 rfl (by decide) (.slice a0 zs.length c0) _ _ rfl (hR3.row.alloc _) ⟨w3.heap.size, 0, none⟩ 1 1 [.int .i64 x.rc.kind, .int .i64 x.rc.key, .int .i64 x.rc.ver, .slice a1 x.rc.data.length c1, .int .i64 x.pair] rfl rfl (fun j u hj => news_five w3 _ _ _ _ _ _ j u hj) (by intro u hu; simp at hu; rcases hu with rfl | rfl | rfl | rfl | rfl <;> rfl) (by unfold maxLen; omega) (by omega) (by have := HSZ.out; simp; omega) ?_; intro v4 w4 hown4 hgrow4 _; have hR6 := hR3.step (x := x) (by decide) (fun b h => by omega) ⟨_, rfl, hu3.mono (fun _ h => .inl h)⟩ hgrow4 hown4; have hk6 := fun b (h1 : some b ≠ (Value.slice a0 zs.length c0).ownBlock) (h2 : b < w3.heap.size) => grown_keep hR3.row hgrow4 h1 h2; have g6 : Grow w w4 := grow_of_grown (gw3.trans (grow_alloc _ _)) hgrow4 (fun k hk => by have := (hR3.row.lt k hk).1; have := HEL.out; omega); have hE6 := (hk6 _ (row_lt hR3.row (by have := HEL.out; omega)) (heap_lt hE3)).trans hE3; have hX6 := (hk6 _ HNE.out (heap_lt hX3)).trans hX3; have hM6 := hM3.same (hk6 _ (row_lt hR3.row (by omega)) hM3.lt); have hl6 := hl3.keep (fun b h1 h2 => hk6 b (row_lt hR3.row (by omega)) h2); have hsl := own_slice2 hown4; obtain ⟨a4, c4, hv4⟩ := hsl; subst hv4; clear hgrow4 hown4 hR3 hE3 gw3 hu3 hX3 hM3 hl3 hk6 x0 x1 x2 x3 x4; have x1 := box_cell hX6 1 _ rfl; have x2 := box_cell hX6 2 _ rfl))
                    go_roundw
                    case rel => exact ⟨k + 1, _, _, _, by omega, by go_num, rfl, rfl, HLa, HFo, by rw [HDR.out]; exact hR6, hM6.on HUS.out (by omega), g6, hE6, hl6⟩
                    case measure => simp [intOf]; omega
                  · have HLa : Hid (LastIs l key (k + 1) (k : Int)) := HSTEP.out.2.1 hy
                    have dy : (x.rc.key == key) = true := by simp [hy]
                    have HFo : Hid (FoundIs l key ver (k + 1) Fo) := HSTEP.out.2.2.2.1 (by omega)
                    have dv : (x.rc.ver == ver) = true := by simp [hv]
                    clear HSTEP hy hv
                    go_wp2_with (first | (at_builtin; refine wpList_append_own _ rfl (.tmp 57) (.tmp 59) 69 rfl (g2 + 1) 71 i0 (.agg #[.int .i64 0, .int .i64 0, .int .i64 0, .slice none 0 0, .int .i64 0]) 5 56 Try.underlying69 hif hz0 hz1 hz2 rfl (by decide) (.slice a0 zs.length c0) _ _ rfl (hR3.row.alloc _) ⟨w3.heap.size, 0, none⟩ 1 1 [.int .i64 x.rc.kind, .int .i64 x.rc.key, .int .i64 x.rc.ver, .slice a1 x.rc.data.length c1, .int .i64 x.pair] rfl rfl (fun j u hj => news_five w3 _ _ _ _ _ _ j u hj) (by intro u hu; simp at hu; rcases hu with rfl | rfl | rfl | rfl | rfl <;> rfl) (by unfold maxLen; omega) (by omega) (by have := HSZ.out; simp; omega) ?_; intro v4 w4 hown4 hgrow4 _; have hR6 := hR3.step (x := x) (by decide) (fun b h => by omega) ⟨_, rfl, hu3.mono (fun _ h => .inl h)⟩ hgrow4 hown4; have hk6 := fun b (h1 : some b ≠ (Value.slice a0 zs.length c0).ownBlock) (h2 : b < w3.heap.size) => grown_keep hR3.row hgrow4 h1 h2; have g6 : Grow w w4 := grow_of_grown (gw3.trans (grow_alloc _ _)) hgrow4 (fun k hk => by have := (hR3.row.lt k hk).1; have := HEL.out; omega); have hE6 := (hk6 _ (row_lt hR3.row (by have := HEL.out; omega)) (heap_lt hE3)).trans hE3; have hX6 := (hk6 _ HNE.out (heap_lt hX3)).trans hX3; have hM6 := hM3.same (hk6 _ (row_lt hR3.row (by omega)) hM3.lt); have hl6 := hl3.keep (fun b h1 h2 => hk6 b (row_lt hR3.row (by omega)) h2); have hsl := own_slice2 hown4; obtain ⟨a4, c4, hv4⟩ := hsl; subst hv4; clear hgrow4 hown4 hR3 hE3 gw3 hu3 hX3 hM3 hl3 hk6 x0 x1 x2 x3 x4; have x1 := box_cell hX6 1 _ rfl; have x2 := box_cell hX6 2 _ rfl))
                    go_roundw
                    case rel => exact ⟨k + 1, _, _, _, by omega, by go_num, rfl, rfl, HLa, HFo, by rw [HDR.out]; exact hR6, hM6.on HUS.out (by omega), g6, hE6, hl6⟩
                    case measure => simp [intOf]; omega
                · have HLa : Hid (LastIs l key (k + 1) (k : Int)) := HSTEP.out.2.1 hy
                  have dy : (x.rc.key == key) = true := by simp [hy]
                  have HFo : Hid (FoundIs l key ver (k + 1) Fo) := HSTEP.out.2.2.1 (fun h => hv h.2)
                  have dv : (x.rc.ver == ver) = false := by simp [hv]
                  clear HSTEP hy hv
                  go_wp2_with (first | (at_builtin; refine wpList_append_own _ rfl (.tmp 57) (.tmp 59) 69 rfl (g2 + 1) 71 i0 (.agg #[.int .i64 0, .int .i64 0, .int .i64 0, .slice none 0 0, .int .i64 0]) 5 56 Try.underlying69 hif hz0 hz1 hz2 rfl (by decide) (.slice a0 zs.length c0) _ _ rfl (hR3.row.alloc _) ⟨w3.heap.size, 0, none⟩ 1 1 [.int .i64 x.rc.kind, .int .i64 x.rc.key, .int .i64 x.rc.ver, .slice a1 x.rc.data.length c1, .int .i64 x.pair] rfl rfl (fun j u hj => news_five w3 _ _ _ _ _ _ j u hj) (by intro u hu; simp at hu; rcases hu with rfl | rfl | rfl | rfl | rfl <;> rfl) (by unfold maxLen; omega) (by omega) (by have := HSZ.out; simp; omega) ?_; intro v4 w4 hown4 hgrow4 _; have hR6 := hR3.step (x := x) (by decide) (fun b h => by omega) ⟨_, rfl, hu3.mono (fun _ h => .inl h)⟩ hgrow4 hown4; have hk6 := fun b (h1 : some b ≠ (Value.slice a0 zs.length c0).ownBlock) (h2 : b < w3.heap.size) => grown_keep hR3.row hgrow4 h1 h2; have g6 : Grow w w4 := grow_of_grown (gw3.trans (grow_alloc _ _)) hgrow4 (fun k hk => by have := (hR3.row.lt k hk).1; have := HEL.out; omega); have hE6 := (hk6 _ (row_lt hR3.row (by have := HEL.out; omega)) (heap_lt hE3)).trans hE3; have hX6 := (hk6 _ HNE.out (heap_lt hX3)).trans hX3; have hM6 := hM3.same (hk6 _ (row_lt hR3.row (by omega)) hM3.lt); have hl6 := hl3.keep (fun b h1 h2 => hk6 b (row_lt hR3.row (by omega)) h2); have hsl := own_slice2 hown4; obtain ⟨a4, c4, hv4⟩ := hsl; subst hv4; clear hgrow4 hown4 hR3 hE3 gw3 hu3 hX3 hM3 hl3 hk6 x0 x1 x2 x3 x4; have x1 := box_cell hX6 1 _ rfl; have x2 := box_cell hX6 2 _ rfl))
                  go_roundw
                  case rel => exact ⟨k + 1, _, _, _, by omega, by go_num, rfl, rfl, HLa, HFo, by rw [HDR.out]; exact hR6, hM6.on HUS.out (by omega), g6, hE6, hl6⟩
                  case measure => simp [intOf]; omega
              · have HLa : Hid (LastIs l key (k + 1) La) := HSTEP.out.1 hy
                have HFo : Hid (FoundIs l key ver (k + 1) Fo) := HSTEP.out.2.2.1 (fun h => hy h.1)
                have dy : (x.rc.key == key) = false := by simp [hy]
                clear HSTEP hy
                go_wp2_with (first | (at_builtin; refine wpList_append_own _ rfl (.tmp 57) (.tmp 59) 69 rfl (g2 + 1) 71 i0 (.agg #[.int .i64 0, .int .i64 0, .int .i64 0, .slice none 0 0, .int .i64 0]) 5 56 Try.underlying69 hif hz0 hz1 hz2 rfl (by decide) (.slice a0 zs.length c0) _ _ rfl (hR3.row.alloc _) ⟨w3.heap.size, 0, none⟩ 1 1 [.int .i64 x.rc.kind, .int .i64 x.rc.key, .int .i64 x.rc.ver, .slice a1 x.rc.data.length c1, .int .i64 x.pair] rfl rfl (fun j u hj => news_five w3 _ _ _ _ _ _ j u hj) (by intro u hu; simp at hu; rcases hu with rfl | rfl | rfl | rfl | rfl <;> rfl) (by unfold maxLen; omega) (by omega) (by have := HSZ.out; simp; omega) ?_; intro v4 w4 hown4 hgrow4 _; have hR6 := hR3.step (x := x) (by decide) (fun b h => by omega) ⟨_, rfl, hu3.mono (fun _ h => .inl h)⟩ hgrow4 hown4; have hk6 := fun b (h1 : some b ≠ (Value.slice a0 zs.length c0).ownBlock) (h2 : b < w3.heap.size) => grown_keep hR3.row hgrow4 h1 h2; have g6 : Grow w w4 := grow_of_grown (gw3.trans (grow_alloc _ _)) hgrow4 (fun k hk => by have := (hR3.row.lt k hk).1; have := HEL.out; omega); have hE6 := (hk6 _ (row_lt hR3.row (by have := HEL.out; omega)) (heap_lt hE3)).trans hE3; have hX6 := (hk6 _ HNE.out (heap_lt hX3)).trans hX3; have hM6 := hM3.same (hk6 _ (row_lt hR3.row (by omega)) hM3.lt); have hl6 := hl3.keep (fun b h1 h2 => hk6 b (row_lt hR3.row (by omega)) h2); have hsl := own_slice2 hown4; obtain ⟨a4, c4, hv4⟩ := hsl; subst hv4; clear hgrow4 hown4 hR3 hE3 gw3 hu3 hX3 hM3 hl3 hk6 x0 x1 x2 x3 x4; have x1 := box_cell hX6 1 _ rfl; have x2 := box_cell hX6 2 _ rfl))
                go_roundw
                case rel => exact ⟨k + 1, _, _, _, by omega, by go_num, rfl, rfl, HLa, HFo, by rw [HDR.out]; exact hR6, hM6.on HUS.out (by omega), g6, hE6, hl6⟩
                case measure => simp [intOf]; omega
          · have hkl : k = l.length := by omega
            have HLS : Hid (LastIs l key l.length La) := by show LastIs _ _ _ _; rw [← hkl]; exact HLs.out
            have HFS : Hid (FoundIs l key ver l.length Fo) := by show FoundIs _ _ _ _ _; rw [← hkl]; exact HFd.out
            have HTK : Hid (l.take k = l) := by show _ = _; rw [hkl, List.take_length]
            rw [HTK.out] at hR hM
            clear hkl HLs HFd HTK
            obtain ⟨a0, c0, rfl⟩ := hR.form
            go_wp2_with fail
            obtain ⟨wo, rfl⟩ : ∃ wo : World, wo = wr := ⟨_, rfl⟩
            go_loopw [19] (fun f wq => wq = wo ∧ ∃ n : Nat, n ≤ 1001 ∧ f = .int .i64 n ∧ Hid (∀ m : Nat, m < n → usedB l (m : Int) = true)) (fun f _ => 1002 - (intOf f).toNat)
            case atStart => exact ⟨rfl, 0, by omega, rfl, fun m hm => by omega⟩
            case round =>
              obtain ⟨hww, n, hn, rfl, HU⟩ := hrel
              subst hww
              have hask := hM.ask (n : Int) (wf_small (by omega) (by omega))
              cases hub : usedB l (n : Int) with
              | true =>
                rw [hub] at hask
                have hn2 : n ≤ 1000 := by
                  obtain ⟨x, hx, hxp⟩ := (used_iff l _).1 hub
                  have := (HGD.out x hx).2.2.2
                  omega
                have HU2 : Hid (∀ m : Nat, m < n + 1 → usedB l (m : Int) = true) := fun m hm => by
                  by_cases e : m = n
                  · rw [e]; exact hub
                  · exact HU.out m (by omega)
                clear hub HU
                go_wp2_with fail
                go_roundw
                case rel => exact ⟨trivial, n + 1, by omega, by go_num, HU2⟩
                case measure => simp [intOf]; omega
              | false =>
                rw [hub] at hask
                have HLEAST : Hid (Least l n) := ⟨fun m hm => (used_iff l _).1 (HU.out m hm), fun x hx hxp => by
                  have := (used_iff l (n : Int)).2 ⟨x, hx, hxp⟩
                  rw [hub] at this; cases this⟩
                clear hub HU
                go_upto_if 85 with fail
                clear hask
                go_cut [19] (fun f wx => ∃ F : Int, f = .int .i64 F ∧ FreeOf l pairs F ∧ wx = wr)
                case first =>
                  by_cases hfp : pairs ≤ (n : Int)
                  · go_wp2_with fail
                    go_meet
                    exact ⟨-1, rfl, ⟨n, HLEAST.out, .inr ⟨hfp, rfl⟩⟩, rfl⟩
                  · have hfp' : (n : Int) < pairs := by omega
                    go_wp2_with fail
                    go_meet
                    exact ⟨n, rfl, ⟨n, HLEAST.out, .inl ⟨hfp', rfl⟩⟩, rfl⟩
                case rest =>
                  obtain ⟨F, rfl, HFO', hwc⟩ := hcut
                  subst hwc
                  have HFO : Hid (FreeOf l pairs F) := HFO'
                  clear HFO' HLEAST
                  have hlr1 := hlr.all (by decide)
                  go_wp2_with fail
                  refine (HLC _ l key _ _ (fun b h => h) HRL.out hlr1).mono ?_
                  rintro r w4 ⟨v4, rfl, ⟨x, a4, c4, rfl, hx4⟩, g4⟩
                  obtain ⟨okL, hokL⟩ : ∃ b, b = (lastOf l key).isSome := ⟨_, rfl⟩
                  rw [← hokL]
                  have HX4 : Hid (∀ y, lastOf l key = some y → y = x ∧ Bytes w4 (.slice a4 x.rc.data.length c4) x.rc.data) := fun y hy => ⟨(hx4 y hy).1, (hx4 y hy).2.p⟩
                  have HOL : Hid _ := hokL
                  clear hokL hx4
                  have g5 := grow_alloc w4 (.cells #[.int .i64 x.rc.kind, .int .i64 x.rc.key, .int .i64 x.rc.ver, .slice a4 x.rc.data.length c4, .int .i64 x.pair] 71)
                  have hA5 := heap_new w4 #[.int .i64 x.rc.kind, .int .i64 x.rc.key, .int .i64 x.rc.ver, .slice a4 x.rc.data.length c4, .int .i64 x.pair] 71
                  have hl5 := hlr1.grow (g4.trans g5)
                  replace hl5 := hl5.all (by decide)
                  go_wp2_with fail
                  refine (HNC _ l key ver _ _ (fun b h => h) HRL.out hl5).mono ?_
                  rintro r w6 ⟨v6, rfl, ⟨z, a6, c6, rfl, hz6⟩, g6⟩
                  obtain ⟨okF, hokF⟩ : ∃ b, b = (findOf l key ver).isSome := ⟨_, rfl⟩
                  rw [← hokF]
                  have HZ6 : Hid (∀ y, findOf l key ver = some y → y = z ∧ Bytes w6 (.slice a6 z.rc.data.length c6) z.rc.data) := fun y hy => ⟨(hz6 y hy).1, (hz6 y hy).2.p⟩
                  have HOF : Hid _ := hokF
                  clear hokF hz6
                  have g7 := grow_alloc w6 (.cells #[.int .i64 z.rc.kind, .int .i64 z.rc.key, .int .i64 z.rc.ver, .slice a6 z.rc.data.length c6, .int .i64 z.pair] 71)
                  have hC7 := heap_new w6 #[.int .i64 z.rc.kind, .int .i64 z.rc.key, .int .i64 z.rc.ver, .slice a6 z.rc.data.length c6, .int .i64 z.pair] 71
                  have hA7 := ((g6.trans g7).block _ (heap_lt hA5)).trans hA5
                  have hl7 := (hl5.grow (g6.trans g7)).all (by decide)
                  have gr7 := (g4.trans g5).trans (g6.trans g7)
                  have HX7 : Hid (∀ y, lastOf l key = some y → y = x ∧ Bytes (w6.alloc (.cells #[.int .i64 z.rc.kind, .int .i64 z.rc.key, .int .i64 z.rc.ver, .slice a6 z.rc.data.length c6, .int .i64 z.pair] 71)) (.slice a4 x.rc.data.length c4) x.rc.data) := fun y hy => ⟨(HX4.out y hy).1, bytes_grow (HX4.out y hy).2 (g5.trans (g6.trans g7))⟩
                  have HZ7 : Hid (∀ y, findOf l key ver = some y → y = z ∧ Bytes (w6.alloc (.cells #[.int .i64 z.rc.kind, .int .i64 z.rc.key, .int .i64 z.rc.ver, .slice a6 z.rc.data.length c6, .int .i64 z.pair] 71)) (.slice a6 z.rc.data.length c6) z.rc.data) := fun y hy => ⟨(HZ6.out y hy).1, bytes_grow (HZ6.out y hy).2 g7⟩
                  clear HX4 HZ6 hl5 hA5 g4 g5 g6 g7 hlr1
                  go_upto_region 26 with fail
                  generalize w4.heap.size = ga at *
                  generalize w6.heap.size = gc at *
                  generalize World.alloc w6 _ = W7 at *
                  go_cut [136] (fun c wx => c = .bool false ∧ Grow W7 wx)
                  case first =>
                    rcases HLS.out with ⟨hl1n, rfl⟩ | ⟨i, hi, rfl, hl1s⟩
                    · rw [List.take_length] at hl1n
                      have hoL : okL = false := by rw [HOL.out, hl1n]; rfl
                      subst hoL
                      rcases HFS.out with ⟨hl2n, rfl⟩ | ⟨j, hj, rfl, hl2s⟩
                      · rw [List.take_length] at hl2n
                        have hoF : okF = false := by rw [HOF.out, hl2n]; rfl
                        subst hoF
                        have hcap := slice_caple hl7
                        clear HX7 HZ7 hlr hM hR
                        refine wp_region_told [ex (.bool false), ex (.int .i64 (-1)), ex (.bool false), ex (.bool false), ex (.bool false), ex (.bool false), ex (.bool false), ex (undef), ex (undef), ex (undef), ex (undef), ex (undef), ex (undef), ex (undef), ex (undef), ex (undef), ex (.bool false), ex (.bool false), ex (.bool false), ex (.bool false), ex (.int .i64 (-1)), ex (.bool false), ex (.bool false), ex (.bool false), ex (.bool false), ex (.bool false), ex (.bool false), ex (undef), ex (undef), ex (undef), ex (undef), ex (undef), ex (undef), ex (undef), ex (undef), ex (undef), ex (.bool false), ex (.bool false)] (by kernel_rfl) (by kernel_rfl) ⟨st_ex _, st_ex _, st_ex _, st_ex _, st_ex _, st_ex _, st_ex _, st_ex _, st_ex _, st_ex _, st_ex _, st_ex _, st_ex _, st_ex _, st_ex _, st_ex _, st_ex _, st_ex _, st_ex _, st_ex _, st_ex _, st_ex _, st_ex _, st_ex _, st_ex _, st_ex _, st_ex _, st_ex _, st_ex _, st_ex _, st_ex _, st_ex _, st_ex _, st_ex _, st_ex _, st_ex _, st_ex _, st_ex _, trivial⟩ ?_ ?_
                        · refine ⟨?_, ?_, ?_, ?_, ?_, ?_, ?_, ?_, ?_, ?_, ?_, ?_, ?_, ?_, ?_, ?_, ?_, ?_, ?_, ?_, ?_, ?_, ?_, ?_, ?_, ?_, ?_, ?_, ?_, ?_, ?_, ?_, ?_, ?_, ?_, ?_, ?_, ?_, trivial⟩
                          · refine need_plain rfl (fun a w' hg hin => ?_)
                            have e : a.eval (.tmp 21) = .bool false := ins_ext hin 21 (by kernel_rfl)
                            exact upon_move rfl e
                          · refine need_plain rfl (fun a w' hg hin => ?_)
                            have e : a.eval (.tmp 15) = .int .i64 (-1) := ins_ext hin 15 (by kernel_rfl)
                            exact upon_move rfl e
                          · refine need_plain rfl (fun a w' hg hin => ?_)
                            have e100 : a.eval (.tmp 100) = .int .i64 (-1) := ins_on hin 1 (by kernel_rfl)
                            refine upon_val ?_ rfl
                            clear hin hg
                            have ek : ∀ x, a.eval (.const x) = x := fun _ => rfl
                            have ef : ∀ f, a.eval (.func f) = .func (.func f) #[] #[] := fun _ => rfl
                            generalize a.eval = ev at *
                            go_simp
                            all_goals first | done | omega | (intro _; omega) | go_arith
                          · refine need_plain rfl (fun a w' hg hin => ?_)
                            have e99 : a.eval (.tmp 99) = .bool false := ins_on hin 0 (by kernel_rfl)
                            have e101 : a.eval (.tmp 101) = .bool false := ins_on hin 2 (by kernel_rfl)
                            refine upon_val ?_ rfl
                            clear hin hg
                            have ek : ∀ x, a.eval (.const x) = x := fun _ => rfl
                            have ef : ∀ f, a.eval (.func f) = .func (.func f) #[] #[] := fun _ => rfl
                            generalize a.eval = ev at *
                            go_simp
                            all_goals first | done | omega | (intro _; omega) | go_arith
                          · refine need_plain rfl (fun a w' hg hin => ?_)
                            have e : a.eval (.tmp 102) = .bool false := ins_on hin 3 (by kernel_rfl)
                            exact upon_move rfl e
                          · refine need_yes 4 false rfl (fun a w' hin => ins_on hin 4 (by kernel_rfl)) (fun a w' hg hin => ?_)
                            have e : a.eval (.tmp 21) = .bool false := ins_ext hin 21 (by kernel_rfl)
                            exact upon_move rfl e
                          · refine need_yes 4 false rfl (fun a w' hin => ins_on hin 4 (by kernel_rfl)) (fun a w' hg hin => ?_)
                            have e : a.eval (.tmp 104) = .bool false := ins_on hin 5 (by kernel_rfl)
                            exact upon_move rfl e
                          · refine need_no 6 true false rfl (by decide) (fun a w' hin => ins_on hin 6 (by kernel_rfl)) (fun _ => rfl)
                          · refine need_no 6 true false rfl (by decide) (fun a w' hin => ins_on hin 6 (by kernel_rfl)) (fun _ => rfl)
                          · refine need_no 6 true false rfl (by decide) (fun a w' hin => ins_on hin 6 (by kernel_rfl)) (fun _ => rfl)
                          · refine need_no 6 true false rfl (by decide) (fun a w' hin => ins_on hin 6 (by kernel_rfl)) (fun _ => rfl)
                          · refine need_no 6 true false rfl (by decide) (fun a w' hin => ins_on hin 6 (by kernel_rfl)) (fun _ => rfl)
                          · refine need_no 6 true false rfl (by decide) (fun a w' hin => ins_on hin 6 (by kernel_rfl)) (fun _ => rfl)
                          · refine need_no 6 true false rfl (by decide) (fun a w' hin => ins_on hin 6 (by kernel_rfl)) (fun _ => rfl)
                          · refine need_no 6 true false rfl (by decide) (fun a w' hin => ins_on hin 6 (by kernel_rfl)) (fun _ => rfl)
                          · refine need_no 6 true false rfl (by decide) (fun a w' hin => ins_on hin 6 (by kernel_rfl)) (fun _ => rfl)
                          · refine need_yes 4 false rfl (fun a w' hin => ins_on hin 4 (by kernel_rfl)) (fun a w' hg hin => ?_)
                            have ec : a.eval (.tmp 105) = .bool false := ins_on hin 6 (by kernel_rfl)
                            exact upon_pick rfl ec rfl
                          · refine need_plain rfl (fun a w' hg hin => ?_)
                            have ec : a.eval (.tmp 103) = .bool false := ins_on hin 4 (by kernel_rfl)
                            have e : a.eval (.tmp 115) = .bool false := ins_on hin 16 (by kernel_rfl)
                            exact upon_pick rfl ec e
                          · refine need_plain rfl (fun a w' hg hin => ?_)
                            have e : a.eval (.tmp 116) = .bool false := ins_on hin 17 (by kernel_rfl)
                            exact upon_move rfl e
                          · refine need_yes 18 false rfl (fun a w' hin => ins_on hin 18 (by kernel_rfl)) (fun a w' hg hin => ?_)
                            have e : a.eval (.tmp 23) = .bool false := ins_ext hin 23 (by kernel_rfl)
                            exact upon_move rfl e
                          · refine need_yes 18 false rfl (fun a w' hin => ins_on hin 18 (by kernel_rfl)) (fun a w' hg hin => ?_)
                            have e : a.eval (.tmp 16) = .int .i64 (-1) := ins_ext hin 16 (by kernel_rfl)
                            exact upon_move rfl e
                          · refine need_yes 18 false rfl (fun a w' hin => ins_on hin 18 (by kernel_rfl)) (fun a w' hg hin => ?_)
                            have e119 : a.eval (.tmp 119) = .int .i64 (-1) := ins_on hin 20 (by kernel_rfl)
                            refine upon_val ?_ rfl
                            clear hin hg
                            have ek : ∀ x, a.eval (.const x) = x := fun _ => rfl
                            have ef : ∀ f, a.eval (.func f) = .func (.func f) #[] #[] := fun _ => rfl
                            generalize a.eval = ev at *
                            go_simp
                            all_goals first | done | omega | (intro _; omega) | go_arith
                          · refine need_yes 18 false rfl (fun a w' hin => ins_on hin 18 (by kernel_rfl)) (fun a w' hg hin => ?_)
                            have e118 : a.eval (.tmp 118) = .bool false := ins_on hin 19 (by kernel_rfl)
                            have e120 : a.eval (.tmp 120) = .bool false := ins_on hin 21 (by kernel_rfl)
                            refine upon_val ?_ rfl
                            clear hin hg
                            have ek : ∀ x, a.eval (.const x) = x := fun _ => rfl
                            have ef : ∀ f, a.eval (.func f) = .func (.func f) #[] #[] := fun _ => rfl
                            generalize a.eval = ev at *
                            go_simp
                            all_goals first | done | omega | (intro _; omega) | go_arith
                          · refine need_plain rfl (fun a w' hg hin => ?_)
                            have ec : a.eval (.tmp 117) = .bool false := ins_on hin 18 (by kernel_rfl)
                            have e : a.eval (.tmp 121) = .bool false := ins_on hin 22 (by kernel_rfl)
                            exact upon_pick rfl ec e
                          · refine need_plain rfl (fun a w' hg hin => ?_)
                            have e : a.eval (.tmp 122) = .bool false := ins_on hin 23 (by kernel_rfl)
                            exact upon_move rfl e
                          · refine need_yes 24 false rfl (fun a w' hin => ins_on hin 24 (by kernel_rfl)) (fun a w' hg hin => ?_)
                            have e : a.eval (.tmp 23) = .bool false := ins_ext hin 23 (by kernel_rfl)
                            exact upon_move rfl e
                          · refine need_yes 24 false rfl (fun a w' hin => ins_on hin 24 (by kernel_rfl)) (fun a w' hg hin => ?_)
                            have e : a.eval (.tmp 124) = .bool false := ins_on hin 25 (by kernel_rfl)
                            exact upon_move rfl e
                          · refine need_no 26 true false rfl (by decide) (fun a w' hin => ins_on hin 26 (by kernel_rfl)) (fun _ => rfl)
                          · refine need_no 26 true false rfl (by decide) (fun a w' hin => ins_on hin 26 (by kernel_rfl)) (fun _ => rfl)
                          · refine need_no 26 true false rfl (by decide) (fun a w' hin => ins_on hin 26 (by kernel_rfl)) (fun _ => rfl)
                          · refine need_no 26 true false rfl (by decide) (fun a w' hin => ins_on hin 26 (by kernel_rfl)) (fun _ => rfl)
                          · refine need_no 26 true false rfl (by decide) (fun a w' hin => ins_on hin 26 (by kernel_rfl)) (fun _ => rfl)
                          · refine need_no 26 true false rfl (by decide) (fun a w' hin => ins_on hin 26 (by kernel_rfl)) (fun _ => rfl)
                          · refine need_no 26 true false rfl (by decide) (fun a w' hin => ins_on hin 26 (by kernel_rfl)) (fun _ => rfl)
                          · refine need_no 26 true false rfl (by decide) (fun a w' hin => ins_on hin 26 (by kernel_rfl)) (fun _ => rfl)
                          · refine need_no 26 true false rfl (by decide) (fun a w' hin => ins_on hin 26 (by kernel_rfl)) (fun _ => rfl)
                          · refine need_yes 24 false rfl (fun a w' hin => ins_on hin 24 (by kernel_rfl)) (fun a w' hg hin => ?_)
                            have ec : a.eval (.tmp 125) = .bool false := ins_on hin 26 (by kernel_rfl)
                            exact upon_pick rfl ec rfl
                          · refine need_plain rfl (fun a w' hg hin => ?_)
                            have ec : a.eval (.tmp 123) = .bool false := ins_on hin 24 (by kernel_rfl)
                            have e : a.eval (.tmp 135) = .bool false := ins_on hin 36 (by kernel_rfl)
                            exact upon_pick rfl ec e
                        · intro vs w' hg ht
                          obtain ⟨q99, q100, q101, q102, q103, q104, q105, q106, q107, q108, q109, q110, q111, q112, q113, q114, q115, q116, q117, q118, q119, q120, q121, q122, q123, q124, q125, q126, q127, q128, q129, q130, q131, q132, q133, q134, q135, q136, -⟩ := ht
                          have r99 : vs 0 = .bool false := q99
                          have r100 : vs 1 = .int .i64 (-1) := q100
                          have r101 : vs 2 = .bool false := q101
                          have r102 : vs 3 = .bool false := q102
                          have r103 : vs 4 = .bool false := q103
                          have r104 : vs 5 = .bool false := q104
                          have r105 : vs 6 = .bool false := q105
                          have r106 : vs 7 = undef := q106
                          have r107 : vs 8 = undef := q107
                          have r108 : vs 9 = undef := q108
                          have r109 : vs 10 = undef := q109
                          have r110 : vs 11 = undef := q110
                          have r111 : vs 12 = undef := q111
                          have r112 : vs 13 = undef := q112
                          have r113 : vs 14 = undef := q113
                          have r114 : vs 15 = undef := q114
                          have r115 : vs 16 = .bool false := q115
                          have r116 : vs 17 = .bool false := q116
                          have r117 : vs 18 = .bool false := q117
                          have r118 : vs 19 = .bool false := q118
                          have r119 : vs 20 = .int .i64 (-1) := q119
                          have r120 : vs 21 = .bool false := q120
                          have r121 : vs 22 = .bool false := q121
                          have r122 : vs 23 = .bool false := q122
                          have r123 : vs 24 = .bool false := q123
                          have r124 : vs 25 = .bool false := q124
                          have r125 : vs 26 = .bool false := q125
                          have r126 : vs 27 = undef := q126
                          have r127 : vs 28 = undef := q127
                          have r128 : vs 29 = undef := q128
                          have r129 : vs 30 = undef := q129
                          have r130 : vs 31 = undef := q130
                          have r131 : vs 32 = undef := q131
                          have r132 : vs 33 = undef := q132
                          have r133 : vs 34 = undef := q133
                          have r134 : vs 35 = undef := q134
                          have r135 : vs 36 = .bool false := q135
                          have r136 : vs 37 = .bool false := q136
                          clear q99 q100 q101 q102 q103 q104 q105 q106 q107 q108 q109 q110 q111 q112 q113 q114 q115 q116 q117 q118 q119 q120 q121 q122 q123 q124 q125 q126 q127 q128 q129 q130 q131 q132 q133 q134 q135 q136
                          simp only [putAll, Act.put, List.setIfInBounds_toArray, List.set_cons_zero, List.set_cons_succ, r99, r100, r101, r102, r103, r104, r105, r106, r107, r108, r109, r110, r111, r112, r113, r114, r115, r116, r117, r118, r119, r120, r121, r122, r123, r124, r125, r126, r127, r128, r129, r130, r131, r132, r133, r134, r135, r136]
                          clear r99 r100 r101 r102 r103 r104 r105 r106 r107 r108 r109 r110 r111 r112 r113 r114 r115 r116 r117 r118 r119 r120 r121 r122 r123 r124 r125 r126 r127 r128 r129 r130 r131 r132 r133 r134 r135 r136
                          go_wp2_with fail
                          go_meet
                          exact ⟨rfl, hg⟩
                      · rw [List.take_length] at hl2s
                        have hoF : okF = true := by rw [HOF.out, hl2s]; rfl
                        subst hoF
                        obtain ⟨hze, hbz⟩ := HZ7.out _ hl2s
                        obtain ⟨b, off, hlo, -, -⟩ := hl7.at j hj
                        subst hlo
                        have htwo := ents_one hl7 j hj
                        rw [hze] at htwo
                        have hcap := slice_caple hl7
                        clear HX7 HZ7 hlr hM hR
                        refine wp_region_told [ex (.bool false), ex (.int .i64 (-1)), ex (.bool false), ex (.bool false), ex (.bool false), ex (.bool false), ex (.bool false), ex (undef), ex (undef), ex (undef), ex (undef), ex (undef), ex (undef), ex (undef), ex (undef), ex (undef), ex (.bool false), ex (.bool false), ex (.bool false), ex (.bool true), ex (.int .i64 (j : Int)), ex (.bool true), ex (.bool false), ex (.bool false), ex (.bool false), ex (.bool true), ex (.bool true), ex (.agg #[.int .i64 z.rc.kind, .int .i64 z.rc.key, .int .i64 z.rc.ver, .slice a6 z.rc.data.length c6, .int .i64 z.pair]), ((fun v w' => EntsP w' v [z])), ex (.slice (some ⟨b, off, none⟩) l.length lc), ex (.int .i64 (j : Int)), ex (.int .i64 (j : Int)), ex (.int .i64 ((j : Int) + 1)), ex (.slice (some ⟨b, off + j * 5, none⟩) 1 (lc - j)), ex (.bool true), ex (.bool false), ex (.bool false), ex (.bool false)] (by kernel_rfl) (by kernel_rfl) ⟨st_ex _, st_ex _, st_ex _, st_ex _, st_ex _, st_ex _, st_ex _, st_ex _, st_ex _, st_ex _, st_ex _, st_ex _, st_ex _, st_ex _, st_ex _, st_ex _, st_ex _, st_ex _, st_ex _, st_ex _, st_ex _, st_ex _, st_ex _, st_ex _, st_ex _, st_ex _, st_ex _, st_ex _, st_entsp _, st_ex _, st_ex _, st_ex _, st_ex _, st_ex _, st_ex _, st_ex _, st_ex _, st_ex _, trivial⟩ ?_ ?_
                        · refine ⟨?_, ?_, ?_, ?_, ?_, ?_, ?_, ?_, ?_, ?_, ?_, ?_, ?_, ?_, ?_, ?_, ?_, ?_, ?_, ?_, ?_, ?_, ?_, ?_, ?_, ?_, ?_, ?_, ?_, ?_, ?_, ?_, ?_, ?_, ?_, ?_, ?_, ?_, trivial⟩
                          · refine need_plain rfl (fun a w' hg hin => ?_)
                            have e : a.eval (.tmp 21) = .bool false := ins_ext hin 21 (by kernel_rfl)
                            exact upon_move rfl e
                          · refine need_plain rfl (fun a w' hg hin => ?_)
                            have e : a.eval (.tmp 15) = .int .i64 (-1) := ins_ext hin 15 (by kernel_rfl)
                            exact upon_move rfl e
                          · refine need_plain rfl (fun a w' hg hin => ?_)
                            have e100 : a.eval (.tmp 100) = .int .i64 (-1) := ins_on hin 1 (by kernel_rfl)
                            refine upon_val ?_ rfl
                            clear hin hg
                            have ek : ∀ x, a.eval (.const x) = x := fun _ => rfl
                            have ef : ∀ f, a.eval (.func f) = .func (.func f) #[] #[] := fun _ => rfl
                            generalize a.eval = ev at *
                            go_simp
                            all_goals first | done | omega | (intro _; omega) | go_arith
                          · refine need_plain rfl (fun a w' hg hin => ?_)
                            have e99 : a.eval (.tmp 99) = .bool false := ins_on hin 0 (by kernel_rfl)
                            have e101 : a.eval (.tmp 101) = .bool false := ins_on hin 2 (by kernel_rfl)
                            refine upon_val ?_ rfl
                            clear hin hg
                            have ek : ∀ x, a.eval (.const x) = x := fun _ => rfl
                            have ef : ∀ f, a.eval (.func f) = .func (.func f) #[] #[] := fun _ => rfl
                            generalize a.eval = ev at *
                            go_simp
                            all_goals first | done | omega | (intro _; omega) | go_arith
                          · refine need_plain rfl (fun a w' hg hin => ?_)
                            have e : a.eval (.tmp 102) = .bool false := ins_on hin 3 (by kernel_rfl)
                            exact upon_move rfl e
                          · refine need_yes 4 false rfl (fun a w' hin => ins_on hin 4 (by kernel_rfl)) (fun a w' hg hin => ?_)
                            have e : a.eval (.tmp 21) = .bool false := ins_ext hin 21 (by kernel_rfl)
                            exact upon_move rfl e
                          · refine need_yes 4 false rfl (fun a w' hin => ins_on hin 4 (by kernel_rfl)) (fun a w' hg hin => ?_)
                            have e : a.eval (.tmp 104) = .bool false := ins_on hin 5 (by kernel_rfl)
                            exact upon_move rfl e
                          · refine need_no 6 true false rfl (by decide) (fun a w' hin => ins_on hin 6 (by kernel_rfl)) (fun _ => rfl)
                          · refine need_no 6 true false rfl (by decide) (fun a w' hin => ins_on hin 6 (by kernel_rfl)) (fun _ => rfl)
                          · refine need_no 6 true false rfl (by decide) (fun a w' hin => ins_on hin 6 (by kernel_rfl)) (fun _ => rfl)
                          · refine need_no 6 true false rfl (by decide) (fun a w' hin => ins_on hin 6 (by kernel_rfl)) (fun _ => rfl)
                          · refine need_no 6 true false rfl (by decide) (fun a w' hin => ins_on hin 6 (by kernel_rfl)) (fun _ => rfl)
                          · refine need_no 6 true false rfl (by decide) (fun a w' hin => ins_on hin 6 (by kernel_rfl)) (fun _ => rfl)
                          · refine need_no 6 true false rfl (by decide) (fun a w' hin => ins_on hin 6 (by kernel_rfl)) (fun _ => rfl)
                          · refine need_no 6 true false rfl (by decide) (fun a w' hin => ins_on hin 6 (by kernel_rfl)) (fun _ => rfl)
                          · refine need_no 6 true false rfl (by decide) (fun a w' hin => ins_on hin 6 (by kernel_rfl)) (fun _ => rfl)
                          · refine need_yes 4 false rfl (fun a w' hin => ins_on hin 4 (by kernel_rfl)) (fun a w' hg hin => ?_)
                            have ec : a.eval (.tmp 105) = .bool false := ins_on hin 6 (by kernel_rfl)
                            exact upon_pick rfl ec rfl
                          · refine need_plain rfl (fun a w' hg hin => ?_)
                            have ec : a.eval (.tmp 103) = .bool false := ins_on hin 4 (by kernel_rfl)
                            have e : a.eval (.tmp 115) = .bool false := ins_on hin 16 (by kernel_rfl)
                            exact upon_pick rfl ec e
                          · refine need_plain rfl (fun a w' hg hin => ?_)
                            have e : a.eval (.tmp 116) = .bool false := ins_on hin 17 (by kernel_rfl)
                            exact upon_move rfl e
                          · refine need_yes 18 false rfl (fun a w' hin => ins_on hin 18 (by kernel_rfl)) (fun a w' hg hin => ?_)
                            have e : a.eval (.tmp 23) = .bool true := ins_ext hin 23 (by kernel_rfl)
                            exact upon_move rfl e
                          · refine need_yes 18 false rfl (fun a w' hin => ins_on hin 18 (by kernel_rfl)) (fun a w' hg hin => ?_)
                            have e : a.eval (.tmp 16) = .int .i64 (j : Int) := ins_ext hin 16 (by kernel_rfl)
                            exact upon_move rfl e
                          · refine need_yes 18 false rfl (fun a w' hin => ins_on hin 18 (by kernel_rfl)) (fun a w' hg hin => ?_)
                            have e119 : a.eval (.tmp 119) = .int .i64 (j : Int) := ins_on hin 20 (by kernel_rfl)
                            refine upon_val ?_ rfl
                            clear hin hg
                            have ek : ∀ x, a.eval (.const x) = x := fun _ => rfl
                            have ef : ∀ f, a.eval (.func f) = .func (.func f) #[] #[] := fun _ => rfl
                            generalize a.eval = ev at *
                            go_simp
                            all_goals first | done | omega | (intro _; omega) | go_arith
                          · refine need_yes 18 false rfl (fun a w' hin => ins_on hin 18 (by kernel_rfl)) (fun a w' hg hin => ?_)
                            have e118 : a.eval (.tmp 118) = .bool true := ins_on hin 19 (by kernel_rfl)
                            have e120 : a.eval (.tmp 120) = .bool true := ins_on hin 21 (by kernel_rfl)
                            refine upon_val ?_ rfl
                            clear hin hg
                            have ek : ∀ x, a.eval (.const x) = x := fun _ => rfl
                            have ef : ∀ f, a.eval (.func f) = .func (.func f) #[] #[] := fun _ => rfl
                            generalize a.eval = ev at *
                            go_simp
                            all_goals first | done | omega | (intro _; omega) | go_arith
                          · refine need_plain rfl (fun a w' hg hin => ?_)
                            have ec : a.eval (.tmp 117) = .bool false := ins_on hin 18 (by kernel_rfl)
                            have e : a.eval (.tmp 121) = .bool false := ins_on hin 22 (by kernel_rfl)
                            exact upon_pick rfl ec e
                          · refine need_plain rfl (fun a w' hg hin => ?_)
                            have e : a.eval (.tmp 122) = .bool false := ins_on hin 23 (by kernel_rfl)
                            exact upon_move rfl e
                          · refine need_yes 24 false rfl (fun a w' hin => ins_on hin 24 (by kernel_rfl)) (fun a w' hg hin => ?_)
                            have e : a.eval (.tmp 23) = .bool true := ins_ext hin 23 (by kernel_rfl)
                            exact upon_move rfl e
                          · refine need_yes 24 false rfl (fun a w' hin => ins_on hin 24 (by kernel_rfl)) (fun a w' hg hin => ?_)
                            have e : a.eval (.tmp 124) = .bool true := ins_on hin 25 (by kernel_rfl)
                            exact upon_move rfl e
                          · refine need_yes 26 true rfl (fun a w' hin => ins_on hin 26 (by kernel_rfl)) (fun a w' hg hin => ?_)
                            have e22 : a.eval (.tmp 22) = .pointer (some ⟨gc, 0, none⟩) := ins_ext hin 22 (by kernel_rfl)
                            have hA := (hg.block _ (heap_lt hC7)).trans hC7
                            have z0 := box_cell hA 0 _ rfl
                            have z1 := box_cell hA 1 _ rfl
                            have z2 := box_cell hA 2 _ rfl
                            have z3 := box_cell hA 3 _ rfl
                            have z4 := box_cell hA 4 _ rfl
                            refine upon_val ?_ rfl
                            clear hin hg hA
                            have ek : ∀ x, a.eval (.const x) = x := fun _ => rfl
                            have ef : ∀ f, a.eval (.func f) = .func (.func f) #[] #[] := fun _ => rfl
                            generalize a.eval = ev at *
                            go_simp
                            all_goals first | done | omega | (intro _; omega) | go_arith
                          · refine need_yes 26 true rfl (fun a w' hin => ins_on hin 26 (by kernel_rfl)) (fun a w' hg hin => ?_)
                            have e126 : a.eval (.tmp 126) = .agg #[.int .i64 z.rc.kind, .int .i64 z.rc.key, .int .i64 z.rc.ver, .slice a6 z.rc.data.length c6, .int .i64 z.pair] := ins_on hin 27 (by kernel_rfl)
                            refine upon_step (v := .slice (some ⟨w'.heap.size, 0, none⟩) 1 1) (w' := w'.alloc (.cells #[.int .i64 z.rc.kind, .int .i64 z.rc.key, .int .i64 z.rc.ver, .slice a6 z.rc.data.length c6, .int .i64 z.pair] 71)) ?_ (grow_alloc _ _) (EntsP.of (slice_one (heap_new _ _ _) (bytes_s (bytes_grow hbz (hg.trans (grow_alloc _ _))))))
                            clear hin hg
                            have ek : ∀ x, a.eval (.const x) = x := fun _ => rfl
                            have ef : ∀ f, a.eval (.func f) = .func (.func f) #[] #[] := fun _ => rfl
                            generalize a.eval = ev at *
                            go_simp
                            all_goals first | done | omega | (intro _; omega) | go_arith
                          · refine need_yes 26 true rfl (fun a w' hin => ins_on hin 26 (by kernel_rfl)) (fun a w' hg hin => ?_)
                            have e : a.eval (.tmp 1) = .slice (some ⟨b, off, none⟩) l.length lc := ins_ext hin 1 (by kernel_rfl)
                            exact upon_move rfl e
                          · refine need_yes 26 true rfl (fun a w' hin => ins_on hin 26 (by kernel_rfl)) (fun a w' hg hin => ?_)
                            have e : a.eval (.tmp 16) = .int .i64 (j : Int) := ins_ext hin 16 (by kernel_rfl)
                            exact upon_move rfl e
                          · refine need_yes 26 true rfl (fun a w' hin => ins_on hin 26 (by kernel_rfl)) (fun a w' hg hin => ?_)
                            have e : a.eval (.tmp 16) = .int .i64 (j : Int) := ins_ext hin 16 (by kernel_rfl)
                            exact upon_move rfl e
                          · refine need_yes 26 true rfl (fun a w' hin => ins_on hin 26 (by kernel_rfl)) (fun a w' hg hin => ?_)
                            have e130 : a.eval (.tmp 130) = .int .i64 (j : Int) := ins_on hin 31 (by kernel_rfl)
                            refine upon_val ?_ rfl
                            clear hin hg
                            have ek : ∀ x, a.eval (.const x) = x := fun _ => rfl
                            have ef : ∀ f, a.eval (.func f) = .func (.func f) #[] #[] := fun _ => rfl
                            generalize a.eval = ev at *
                            go_simp
                            all_goals first | done | omega | (intro _; omega) | go_arith
                          · refine need_yes 26 true rfl (fun a w' hin => ins_on hin 26 (by kernel_rfl)) (fun a w' hg hin => ?_)
                            have e128 : a.eval (.tmp 128) = .slice (some ⟨b, off, none⟩) l.length lc := ins_on hin 29 (by kernel_rfl)
                            have e129 : a.eval (.tmp 129) = .int .i64 (j : Int) := ins_on hin 30 (by kernel_rfl)
                            have e131 : a.eval (.tmp 131) = .int .i64 ((j : Int) + 1) := ins_on hin 32 (by kernel_rfl)
                            exact upon_val (run_sub w' a.eval _ _ _ _ rfl b off l.length lc j hj hcap e128 e129 e131) rfl
                          · refine need_yes 26 true rfl (fun a w' hin => ins_on hin 26 (by kernel_rfl)) (fun a w' hg hin => ?_)
                            have e127 : ((fun v w' => EntsP w' v [z])) (a.eval (.tmp 127)) w' := ins_on hin 28 (by kernel_rfl)
                            have e132 : a.eval (.tmp 132) = .slice (some ⟨b, off + j * 5, none⟩) 1 (lc - j) := ins_on hin 33 (by kernel_rfl)
                            obtain ⟨a9, c9, h9⟩ : ∃ p q, a.eval (.tmp 127) = .slice p 1 q := SliceS.form e127
                            refine upon_call (f := 58) (args := #[.slice a9 1 c9, .slice (some ⟨b, off + j * 5, none⟩) 1 (lc - j)]) ?_ ((rsameE_any [z] [z] _ _ _ _ w' (by rw [← h9]; exact e127) (htwo.grow hg) (by simp)).mono ?_)
                            · clear hin hg e127
                              have ek : ∀ x, a.eval (.const x) = x := fun _ => rfl
                              have ef : ∀ f, a.eval (.func f) = .func (.func f) #[] #[] := fun _ => rfl
                              generalize a.eval = ev at *
                              go_simp
                              all_goals first | done | omega | (intro _; omega) | go_arith
                            · rw [sameE_refl]
                              rintro r w2 ⟨rfl, g2⟩
                              exact ⟨_, rfl, g2, rfl⟩
                          · refine need_yes 26 true rfl (fun a w' hin => ins_on hin 26 (by kernel_rfl)) (fun a w' hg hin => ?_)
                            have e133 : a.eval (.tmp 133) = .bool true := ins_on hin 34 (by kernel_rfl)
                            refine upon_val ?_ rfl
                            clear hin hg
                            have ek : ∀ x, a.eval (.const x) = x := fun _ => rfl
                            have ef : ∀ f, a.eval (.func f) = .func (.func f) #[] #[] := fun _ => rfl
                            generalize a.eval = ev at *
                            go_simp
                            all_goals first | done | omega | (intro _; omega) | go_arith
                          · refine need_yes 24 false rfl (fun a w' hin => ins_on hin 24 (by kernel_rfl)) (fun a w' hg hin => ?_)
                            have ec : a.eval (.tmp 125) = .bool true := ins_on hin 26 (by kernel_rfl)
                            have e : a.eval (.tmp 134) = .bool false := ins_on hin 35 (by kernel_rfl)
                            exact upon_pick rfl ec e
                          · refine need_plain rfl (fun a w' hg hin => ?_)
                            have ec : a.eval (.tmp 123) = .bool false := ins_on hin 24 (by kernel_rfl)
                            have e : a.eval (.tmp 135) = .bool false := ins_on hin 36 (by kernel_rfl)
                            exact upon_pick rfl ec e
                        · intro vs w' hg ht
                          obtain ⟨q99, q100, q101, q102, q103, q104, q105, q106, q107, q108, q109, q110, q111, q112, q113, q114, q115, q116, q117, q118, q119, q120, q121, q122, q123, q124, q125, q126, q127, q128, q129, q130, q131, q132, q133, q134, q135, q136, -⟩ := ht
                          have r99 : vs 0 = .bool false := q99
                          have r100 : vs 1 = .int .i64 (-1) := q100
                          have r101 : vs 2 = .bool false := q101
                          have r102 : vs 3 = .bool false := q102
                          have r103 : vs 4 = .bool false := q103
                          have r104 : vs 5 = .bool false := q104
                          have r105 : vs 6 = .bool false := q105
                          have r106 : vs 7 = undef := q106
                          have r107 : vs 8 = undef := q107
                          have r108 : vs 9 = undef := q108
                          have r109 : vs 10 = undef := q109
                          have r110 : vs 11 = undef := q110
                          have r111 : vs 12 = undef := q111
                          have r112 : vs 13 = undef := q112
                          have r113 : vs 14 = undef := q113
                          have r114 : vs 15 = undef := q114
                          have r115 : vs 16 = .bool false := q115
                          have r116 : vs 17 = .bool false := q116
                          have r117 : vs 18 = .bool false := q117
                          have r118 : vs 19 = .bool true := q118
                          have r119 : vs 20 = .int .i64 (j : Int) := q119
                          have r120 : vs 21 = .bool true := q120
                          have r121 : vs 22 = .bool false := q121
                          have r122 : vs 23 = .bool false := q122
                          have r123 : vs 24 = .bool false := q123
                          have r124 : vs 25 = .bool true := q124
                          have r125 : vs 26 = .bool true := q125
                          have r126 : vs 27 = .agg #[.int .i64 z.rc.kind, .int .i64 z.rc.key, .int .i64 z.rc.ver, .slice a6 z.rc.data.length c6, .int .i64 z.pair] := q126
                          have r128 : vs 29 = .slice (some ⟨b, off, none⟩) l.length lc := q128
                          have r129 : vs 30 = .int .i64 (j : Int) := q129
                          have r130 : vs 31 = .int .i64 (j : Int) := q130
                          have r131 : vs 32 = .int .i64 ((j : Int) + 1) := q131
                          have r132 : vs 33 = .slice (some ⟨b, off + j * 5, none⟩) 1 (lc - j) := q132
                          have r133 : vs 34 = .bool true := q133
                          have r134 : vs 35 = .bool false := q134
                          have r135 : vs 36 = .bool false := q135
                          have r136 : vs 37 = .bool false := q136
                          clear q99 q100 q101 q102 q103 q104 q105 q106 q107 q108 q109 q110 q111 q112 q113 q114 q115 q116 q117 q118 q119 q120 q121 q122 q123 q124 q125 q126 q128 q129 q130 q131 q132 q133 q134 q135 q136
                          simp only [putAll, Act.put, List.setIfInBounds_toArray, List.set_cons_zero, List.set_cons_succ, r99, r100, r101, r102, r103, r104, r105, r106, r107, r108, r109, r110, r111, r112, r113, r114, r115, r116, r117, r118, r119, r120, r121, r122, r123, r124, r125, r126, r128, r129, r130, r131, r132, r133, r134, r135, r136]
                          clear r99 r100 r101 r102 r103 r104 r105 r106 r107 r108 r109 r110 r111 r112 r113 r114 r115 r116 r117 r118 r119 r120 r121 r122 r123 r124 r125 r126 r128 r129 r130 r131 r132 r133 r134 r135 r136
                          clear q127
                          generalize vs 28 = u127
                          go_wp2_with fail
                          go_meet
                          exact ⟨rfl, hg⟩
                    · rw [List.take_length] at hl1s
                      have hoL : okL = true := by rw [HOL.out, hl1s]; rfl
                      subst hoL
                      obtain ⟨hxe, hbx⟩ := HX7.out _ hl1s
                      obtain ⟨b, off, hlo, -, -⟩ := hl7.at i hi
                      subst hlo
                      have hone := ents_one hl7 i hi
                      rw [hxe] at hone
                      rcases HFS.out with ⟨hl2n, rfl⟩ | ⟨j, hj, rfl, hl2s⟩
                      · rw [List.take_length] at hl2n
                        have hoF : okF = false := by rw [HOF.out, hl2n]; rfl
                        subst hoF
                        have hcap := slice_caple hl7
                        clear HX7 HZ7 hlr hM hR
                        refine wp_region_told [ex (.bool true), ex (.int .i64 (i : Int)), ex (.bool true), ex (.bool false), ex (.bool false), ex (.bool true), ex (.bool true), ex (.agg #[.int .i64 x.rc.kind, .int .i64 x.rc.key, .int .i64 x.rc.ver, .slice a4 x.rc.data.length c4, .int .i64 x.pair]), ((fun v w' => EntsP w' v [x])), ex (.slice (some ⟨b, off, none⟩) l.length lc), ex (.int .i64 (i : Int)), ex (.int .i64 (i : Int)), ex (.int .i64 ((i : Int) + 1)), ex (.slice (some ⟨b, off + i * 5, none⟩) 1 (lc - i)), ex (.bool true), ex (.bool false), ex (.bool false), ex (.bool false), ex (.bool false), ex (.bool false), ex (.int .i64 (-1)), ex (.bool false), ex (.bool false), ex (.bool false), ex (.bool false), ex (.bool false), ex (.bool false), ex (undef), ex (undef), ex (undef), ex (undef), ex (undef), ex (undef), ex (undef), ex (undef), ex (undef), ex (.bool false), ex (.bool false)] (by kernel_rfl) (by kernel_rfl) ⟨st_ex _, st_ex _, st_ex _, st_ex _, st_ex _, st_ex _, st_ex _, st_ex _, st_entsp _, st_ex _, st_ex _, st_ex _, st_ex _, st_ex _, st_ex _, st_ex _, st_ex _, st_ex _, st_ex _, st_ex _, st_ex _, st_ex _, st_ex _, st_ex _, st_ex _, st_ex _, st_ex _, st_ex _, st_ex _, st_ex _, st_ex _, st_ex _, st_ex _, st_ex _, st_ex _, st_ex _, st_ex _, st_ex _, trivial⟩ ?_ ?_
                        · refine ⟨?_, ?_, ?_, ?_, ?_, ?_, ?_, ?_, ?_, ?_, ?_, ?_, ?_, ?_, ?_, ?_, ?_, ?_, ?_, ?_, ?_, ?_, ?_, ?_, ?_, ?_, ?_, ?_, ?_, ?_, ?_, ?_, ?_, ?_, ?_, ?_, ?_, ?_, trivial⟩
                          · refine need_plain rfl (fun a w' hg hin => ?_)
                            have e : a.eval (.tmp 21) = .bool true := ins_ext hin 21 (by kernel_rfl)
                            exact upon_move rfl e
                          · refine need_plain rfl (fun a w' hg hin => ?_)
                            have e : a.eval (.tmp 15) = .int .i64 (i : Int) := ins_ext hin 15 (by kernel_rfl)
                            exact upon_move rfl e
                          · refine need_plain rfl (fun a w' hg hin => ?_)
                            have e100 : a.eval (.tmp 100) = .int .i64 (i : Int) := ins_on hin 1 (by kernel_rfl)
                            refine upon_val ?_ rfl
                            clear hin hg
                            have ek : ∀ x, a.eval (.const x) = x := fun _ => rfl
                            have ef : ∀ f, a.eval (.func f) = .func (.func f) #[] #[] := fun _ => rfl
                            generalize a.eval = ev at *
                            go_simp
                            all_goals first | done | omega | (intro _; omega) | go_arith
                          · refine need_plain rfl (fun a w' hg hin => ?_)
                            have e99 : a.eval (.tmp 99) = .bool true := ins_on hin 0 (by kernel_rfl)
                            have e101 : a.eval (.tmp 101) = .bool true := ins_on hin 2 (by kernel_rfl)
                            refine upon_val ?_ rfl
                            clear hin hg
                            have ek : ∀ x, a.eval (.const x) = x := fun _ => rfl
                            have ef : ∀ f, a.eval (.func f) = .func (.func f) #[] #[] := fun _ => rfl
                            generalize a.eval = ev at *
                            go_simp
                            all_goals first | done | omega | (intro _; omega) | go_arith
                          · refine need_plain rfl (fun a w' hg hin => ?_)
                            have e : a.eval (.tmp 102) = .bool false := ins_on hin 3 (by kernel_rfl)
                            exact upon_move rfl e
                          · refine need_yes 4 false rfl (fun a w' hin => ins_on hin 4 (by kernel_rfl)) (fun a w' hg hin => ?_)
                            have e : a.eval (.tmp 21) = .bool true := ins_ext hin 21 (by kernel_rfl)
                            exact upon_move rfl e
                          · refine need_yes 4 false rfl (fun a w' hin => ins_on hin 4 (by kernel_rfl)) (fun a w' hg hin => ?_)
                            have e : a.eval (.tmp 104) = .bool true := ins_on hin 5 (by kernel_rfl)
                            exact upon_move rfl e
                          · refine need_yes 6 true rfl (fun a w' hin => ins_on hin 6 (by kernel_rfl)) (fun a w' hg hin => ?_)
                            have e20 : a.eval (.tmp 20) = .pointer (some ⟨ga, 0, none⟩) := ins_ext hin 20 (by kernel_rfl)
                            have hA := (hg.block _ (heap_lt hA7)).trans hA7
                            have z0 := box_cell hA 0 _ rfl
                            have z1 := box_cell hA 1 _ rfl
                            have z2 := box_cell hA 2 _ rfl
                            have z3 := box_cell hA 3 _ rfl
                            have z4 := box_cell hA 4 _ rfl
                            refine upon_val ?_ rfl
                            clear hin hg hA
                            have ek : ∀ x, a.eval (.const x) = x := fun _ => rfl
                            have ef : ∀ f, a.eval (.func f) = .func (.func f) #[] #[] := fun _ => rfl
                            generalize a.eval = ev at *
                            go_simp
                            all_goals first | done | omega | (intro _; omega) | go_arith
                          · refine need_yes 6 true rfl (fun a w' hin => ins_on hin 6 (by kernel_rfl)) (fun a w' hg hin => ?_)
                            have e106 : a.eval (.tmp 106) = .agg #[.int .i64 x.rc.kind, .int .i64 x.rc.key, .int .i64 x.rc.ver, .slice a4 x.rc.data.length c4, .int .i64 x.pair] := ins_on hin 7 (by kernel_rfl)
                            refine upon_step (v := .slice (some ⟨w'.heap.size, 0, none⟩) 1 1) (w' := w'.alloc (.cells #[.int .i64 x.rc.kind, .int .i64 x.rc.key, .int .i64 x.rc.ver, .slice a4 x.rc.data.length c4, .int .i64 x.pair] 71)) ?_ (grow_alloc _ _) (EntsP.of (slice_one (heap_new _ _ _) (bytes_s (bytes_grow hbx (hg.trans (grow_alloc _ _))))))
                            clear hin hg
                            have ek : ∀ x, a.eval (.const x) = x := fun _ => rfl
                            have ef : ∀ f, a.eval (.func f) = .func (.func f) #[] #[] := fun _ => rfl
                            generalize a.eval = ev at *
                            go_simp
                            all_goals first | done | omega | (intro _; omega) | go_arith
                          · refine need_yes 6 true rfl (fun a w' hin => ins_on hin 6 (by kernel_rfl)) (fun a w' hg hin => ?_)
                            have e : a.eval (.tmp 1) = .slice (some ⟨b, off, none⟩) l.length lc := ins_ext hin 1 (by kernel_rfl)
                            exact upon_move rfl e
                          · refine need_yes 6 true rfl (fun a w' hin => ins_on hin 6 (by kernel_rfl)) (fun a w' hg hin => ?_)
                            have e : a.eval (.tmp 15) = .int .i64 (i : Int) := ins_ext hin 15 (by kernel_rfl)
                            exact upon_move rfl e
                          · refine need_yes 6 true rfl (fun a w' hin => ins_on hin 6 (by kernel_rfl)) (fun a w' hg hin => ?_)
                            have e : a.eval (.tmp 15) = .int .i64 (i : Int) := ins_ext hin 15 (by kernel_rfl)
                            exact upon_move rfl e
                          · refine need_yes 6 true rfl (fun a w' hin => ins_on hin 6 (by kernel_rfl)) (fun a w' hg hin => ?_)
                            have e110 : a.eval (.tmp 110) = .int .i64 (i : Int) := ins_on hin 11 (by kernel_rfl)
                            refine upon_val ?_ rfl
                            clear hin hg
                            have ek : ∀ x, a.eval (.const x) = x := fun _ => rfl
                            have ef : ∀ f, a.eval (.func f) = .func (.func f) #[] #[] := fun _ => rfl
                            generalize a.eval = ev at *
                            go_simp
                            all_goals first | done | omega | (intro _; omega) | go_arith
                          · refine need_yes 6 true rfl (fun a w' hin => ins_on hin 6 (by kernel_rfl)) (fun a w' hg hin => ?_)
                            have e108 : a.eval (.tmp 108) = .slice (some ⟨b, off, none⟩) l.length lc := ins_on hin 9 (by kernel_rfl)
                            have e109 : a.eval (.tmp 109) = .int .i64 (i : Int) := ins_on hin 10 (by kernel_rfl)
                            have e111 : a.eval (.tmp 111) = .int .i64 ((i : Int) + 1) := ins_on hin 12 (by kernel_rfl)
                            exact upon_val (run_sub w' a.eval _ _ _ _ rfl b off l.length lc i hi hcap e108 e109 e111) rfl
                          · refine need_yes 6 true rfl (fun a w' hin => ins_on hin 6 (by kernel_rfl)) (fun a w' hg hin => ?_)
                            have e107 : ((fun v w' => EntsP w' v [x])) (a.eval (.tmp 107)) w' := ins_on hin 8 (by kernel_rfl)
                            have e112 : a.eval (.tmp 112) = .slice (some ⟨b, off + i * 5, none⟩) 1 (lc - i) := ins_on hin 13 (by kernel_rfl)
                            obtain ⟨a9, c9, h9⟩ : ∃ p q, a.eval (.tmp 107) = .slice p 1 q := SliceS.form e107
                            refine upon_call (f := 58) (args := #[.slice a9 1 c9, .slice (some ⟨b, off + i * 5, none⟩) 1 (lc - i)]) ?_ ((rsameE_any [x] [x] _ _ _ _ w' (by rw [← h9]; exact e107) (hone.grow hg) (by simp)).mono ?_)
                            · clear hin hg e107
                              have ek : ∀ x, a.eval (.const x) = x := fun _ => rfl
                              have ef : ∀ f, a.eval (.func f) = .func (.func f) #[] #[] := fun _ => rfl
                              generalize a.eval = ev at *
                              go_simp
                              all_goals first | done | omega | (intro _; omega) | go_arith
                            · rw [sameE_refl]
                              rintro r w2 ⟨rfl, g2⟩
                              exact ⟨_, rfl, g2, rfl⟩
                          · refine need_yes 6 true rfl (fun a w' hin => ins_on hin 6 (by kernel_rfl)) (fun a w' hg hin => ?_)
                            have e113 : a.eval (.tmp 113) = .bool true := ins_on hin 14 (by kernel_rfl)
                            refine upon_val ?_ rfl
                            clear hin hg
                            have ek : ∀ x, a.eval (.const x) = x := fun _ => rfl
                            have ef : ∀ f, a.eval (.func f) = .func (.func f) #[] #[] := fun _ => rfl
                            generalize a.eval = ev at *
                            go_simp
                            all_goals first | done | omega | (intro _; omega) | go_arith
                          · refine need_yes 4 false rfl (fun a w' hin => ins_on hin 4 (by kernel_rfl)) (fun a w' hg hin => ?_)
                            have ec : a.eval (.tmp 105) = .bool true := ins_on hin 6 (by kernel_rfl)
                            have e : a.eval (.tmp 114) = .bool false := ins_on hin 15 (by kernel_rfl)
                            exact upon_pick rfl ec e
                          · refine need_plain rfl (fun a w' hg hin => ?_)
                            have ec : a.eval (.tmp 103) = .bool false := ins_on hin 4 (by kernel_rfl)
                            have e : a.eval (.tmp 115) = .bool false := ins_on hin 16 (by kernel_rfl)
                            exact upon_pick rfl ec e
                          · refine need_plain rfl (fun a w' hg hin => ?_)
                            have e : a.eval (.tmp 116) = .bool false := ins_on hin 17 (by kernel_rfl)
                            exact upon_move rfl e
                          · refine need_yes 18 false rfl (fun a w' hin => ins_on hin 18 (by kernel_rfl)) (fun a w' hg hin => ?_)
                            have e : a.eval (.tmp 23) = .bool false := ins_ext hin 23 (by kernel_rfl)
                            exact upon_move rfl e
                          · refine need_yes 18 false rfl (fun a w' hin => ins_on hin 18 (by kernel_rfl)) (fun a w' hg hin => ?_)
                            have e : a.eval (.tmp 16) = .int .i64 (-1) := ins_ext hin 16 (by kernel_rfl)
                            exact upon_move rfl e
                          · refine need_yes 18 false rfl (fun a w' hin => ins_on hin 18 (by kernel_rfl)) (fun a w' hg hin => ?_)
                            have e119 : a.eval (.tmp 119) = .int .i64 (-1) := ins_on hin 20 (by kernel_rfl)
                            refine upon_val ?_ rfl
                            clear hin hg
                            have ek : ∀ x, a.eval (.const x) = x := fun _ => rfl
                            have ef : ∀ f, a.eval (.func f) = .func (.func f) #[] #[] := fun _ => rfl
                            generalize a.eval = ev at *
                            go_simp
                            all_goals first | done | omega | (intro _; omega) | go_arith
                          · refine need_yes 18 false rfl (fun a w' hin => ins_on hin 18 (by kernel_rfl)) (fun a w' hg hin => ?_)
                            have e118 : a.eval (.tmp 118) = .bool false := ins_on hin 19 (by kernel_rfl)
                            have e120 : a.eval (.tmp 120) = .bool false := ins_on hin 21 (by kernel_rfl)
                            refine upon_val ?_ rfl
                            clear hin hg
                            have ek : ∀ x, a.eval (.const x) = x := fun _ => rfl
                            have ef : ∀ f, a.eval (.func f) = .func (.func f) #[] #[] := fun _ => rfl
                            generalize a.eval = ev at *
                            go_simp
                            all_goals first | done | omega | (intro _; omega) | go_arith
                          · refine need_plain rfl (fun a w' hg hin => ?_)
                            have ec : a.eval (.tmp 117) = .bool false := ins_on hin 18 (by kernel_rfl)
                            have e : a.eval (.tmp 121) = .bool false := ins_on hin 22 (by kernel_rfl)
                            exact upon_pick rfl ec e
                          · refine need_plain rfl (fun a w' hg hin => ?_)
                            have e : a.eval (.tmp 122) = .bool false := ins_on hin 23 (by kernel_rfl)
                            exact upon_move rfl e
                          · refine need_yes 24 false rfl (fun a w' hin => ins_on hin 24 (by kernel_rfl)) (fun a w' hg hin => ?_)
                            have e : a.eval (.tmp 23) = .bool false := ins_ext hin 23 (by kernel_rfl)
                            exact upon_move rfl e
                          · refine need_yes 24 false rfl (fun a w' hin => ins_on hin 24 (by kernel_rfl)) (fun a w' hg hin => ?_)
                            have e : a.eval (.tmp 124) = .bool false := ins_on hin 25 (by kernel_rfl)
                            exact upon_move rfl e
                          · refine need_no 26 true false rfl (by decide) (fun a w' hin => ins_on hin 26 (by kernel_rfl)) (fun _ => rfl)
                          · refine need_no 26 true false rfl (by decide) (fun a w' hin => ins_on hin 26 (by kernel_rfl)) (fun _ => rfl)
                          · refine need_no 26 true false rfl (by decide) (fun a w' hin => ins_on hin 26 (by kernel_rfl)) (fun _ => rfl)
                          · refine need_no 26 true false rfl (by decide) (fun a w' hin => ins_on hin 26 (by kernel_rfl)) (fun _ => rfl)
                          · refine need_no 26 true false rfl (by decide) (fun a w' hin => ins_on hin 26 (by kernel_rfl)) (fun _ => rfl)
                          · refine need_no 26 true false rfl (by decide) (fun a w' hin => ins_on hin 26 (by kernel_rfl)) (fun _ => rfl)
                          · refine need_no 26 true false rfl (by decide) (fun a w' hin => ins_on hin 26 (by kernel_rfl)) (fun _ => rfl)
                          · refine need_no 26 true false rfl (by decide) (fun a w' hin => ins_on hin 26 (by kernel_rfl)) (fun _ => rfl)
                          · refine need_no 26 true false rfl (by decide) (fun a w' hin => ins_on hin 26 (by kernel_rfl)) (fun _ => rfl)
                          · refine need_yes 24 false rfl (fun a w' hin => ins_on hin 24 (by kernel_rfl)) (fun a w' hg hin => ?_)
                            have ec : a.eval (.tmp 125) = .bool false := ins_on hin 26 (by kernel_rfl)
                            exact upon_pick rfl ec rfl
                          · refine need_plain rfl (fun a w' hg hin => ?_)
                            have ec : a.eval (.tmp 123) = .bool false := ins_on hin 24 (by kernel_rfl)
                            have e : a.eval (.tmp 135) = .bool false := ins_on hin 36 (by kernel_rfl)
                            exact upon_pick rfl ec e
                        · intro vs w' hg ht
                          obtain ⟨q99, q100, q101, q102, q103, q104, q105, q106, q107, q108, q109, q110, q111, q112, q113, q114, q115, q116, q117, q118, q119, q120, q121, q122, q123, q124, q125, q126, q127, q128, q129, q130, q131, q132, q133, q134, q135, q136, -⟩ := ht
                          have r99 : vs 0 = .bool true := q99
                          have r100 : vs 1 = .int .i64 (i : Int) := q100
                          have r101 : vs 2 = .bool true := q101
                          have r102 : vs 3 = .bool false := q102
                          have r103 : vs 4 = .bool false := q103
                          have r104 : vs 5 = .bool true := q104
                          have r105 : vs 6 = .bool true := q105
                          have r106 : vs 7 = .agg #[.int .i64 x.rc.kind, .int .i64 x.rc.key, .int .i64 x.rc.ver, .slice a4 x.rc.data.length c4, .int .i64 x.pair] := q106
                          have r108 : vs 9 = .slice (some ⟨b, off, none⟩) l.length lc := q108
                          have r109 : vs 10 = .int .i64 (i : Int) := q109
                          have r110 : vs 11 = .int .i64 (i : Int) := q110
                          have r111 : vs 12 = .int .i64 ((i : Int) + 1) := q111
                          have r112 : vs 13 = .slice (some ⟨b, off + i * 5, none⟩) 1 (lc - i) := q112
                          have r113 : vs 14 = .bool true := q113
                          have r114 : vs 15 = .bool false := q114
                          have r115 : vs 16 = .bool false := q115
                          have r116 : vs 17 = .bool false := q116
                          have r117 : vs 18 = .bool false := q117
                          have r118 : vs 19 = .bool false := q118
                          have r119 : vs 20 = .int .i64 (-1) := q119
                          have r120 : vs 21 = .bool false := q120
                          have r121 : vs 22 = .bool false := q121
                          have r122 : vs 23 = .bool false := q122
                          have r123 : vs 24 = .bool false := q123
                          have r124 : vs 25 = .bool false := q124
                          have r125 : vs 26 = .bool false := q125
                          have r126 : vs 27 = undef := q126
                          have r127 : vs 28 = undef := q127
                          have r128 : vs 29 = undef := q128
                          have r129 : vs 30 = undef := q129
                          have r130 : vs 31 = undef := q130
                          have r131 : vs 32 = undef := q131
                          have r132 : vs 33 = undef := q132
                          have r133 : vs 34 = undef := q133
                          have r134 : vs 35 = undef := q134
                          have r135 : vs 36 = .bool false := q135
                          have r136 : vs 37 = .bool false := q136
                          clear q99 q100 q101 q102 q103 q104 q105 q106 q108 q109 q110 q111 q112 q113 q114 q115 q116 q117 q118 q119 q120 q121 q122 q123 q124 q125 q126 q127 q128 q129 q130 q131 q132 q133 q134 q135 q136
                          simp only [putAll, Act.put, List.setIfInBounds_toArray, List.set_cons_zero, List.set_cons_succ, r99, r100, r101, r102, r103, r104, r105, r106, r108, r109, r110, r111, r112, r113, r114, r115, r116, r117, r118, r119, r120, r121, r122, r123, r124, r125, r126, r127, r128, r129, r130, r131, r132, r133, r134, r135, r136]
                          clear r99 r100 r101 r102 r103 r104 r105 r106 r108 r109 r110 r111 r112 r113 r114 r115 r116 r117 r118 r119 r120 r121 r122 r123 r124 r125 r126 r127 r128 r129 r130 r131 r132 r133 r134 r135 r136
                          clear q107
                          generalize vs 8 = u107
                          go_wp2_with fail
                          go_meet
                          exact ⟨rfl, hg⟩
                      · rw [List.take_length] at hl2s
                        have hoF : okF = true := by rw [HOF.out, hl2s]; rfl
                        subst hoF
                        obtain ⟨hze, hbz⟩ := HZ7.out _ hl2s
                        have htwo := ents_one hl7 j hj
                        rw [hze] at htwo
                        have hcap := slice_caple hl7
                        clear HX7 HZ7 hlr hM hR
                        refine wp_region_told [ex (.bool true), ex (.int .i64 (i : Int)), ex (.bool true), ex (.bool false), ex (.bool false), ex (.bool true), ex (.bool true), ex (.agg #[.int .i64 x.rc.kind, .int .i64 x.rc.key, .int .i64 x.rc.ver, .slice a4 x.rc.data.length c4, .int .i64 x.pair]), ((fun v w' => EntsP w' v [x])), ex (.slice (some ⟨b, off, none⟩) l.length lc), ex (.int .i64 (i : Int)), ex (.int .i64 (i : Int)), ex (.int .i64 ((i : Int) + 1)), ex (.slice (some ⟨b, off + i * 5, none⟩) 1 (lc - i)), ex (.bool true), ex (.bool false), ex (.bool false), ex (.bool false), ex (.bool false), ex (.bool true), ex (.int .i64 (j : Int)), ex (.bool true), ex (.bool false), ex (.bool false), ex (.bool false), ex (.bool true), ex (.bool true), ex (.agg #[.int .i64 z.rc.kind, .int .i64 z.rc.key, .int .i64 z.rc.ver, .slice a6 z.rc.data.length c6, .int .i64 z.pair]), ((fun v w' => EntsP w' v [z])), ex (.slice (some ⟨b, off, none⟩) l.length lc), ex (.int .i64 (j : Int)), ex (.int .i64 (j : Int)), ex (.int .i64 ((j : Int) + 1)), ex (.slice (some ⟨b, off + j * 5, none⟩) 1 (lc - j)), ex (.bool true), ex (.bool false), ex (.bool false), ex (.bool false)] (by kernel_rfl) (by kernel_rfl) ⟨st_ex _, st_ex _, st_ex _, st_ex _, st_ex _, st_ex _, st_ex _, st_ex _, st_entsp _, st_ex _, st_ex _, st_ex _, st_ex _, st_ex _, st_ex _, st_ex _, st_ex _, st_ex _, st_ex _, st_ex _, st_ex _, st_ex _, st_ex _, st_ex _, st_ex _, st_ex _, st_ex _, st_ex _, st_entsp _, st_ex _, st_ex _, st_ex _, st_ex _, st_ex _, st_ex _, st_ex _, st_ex _, st_ex _, trivial⟩ ?_ ?_
                        · refine ⟨?_, ?_, ?_, ?_, ?_, ?_, ?_, ?_, ?_, ?_, ?_, ?_, ?_, ?_, ?_, ?_, ?_, ?_, ?_, ?_, ?_, ?_, ?_, ?_, ?_, ?_, ?_, ?_, ?_, ?_, ?_, ?_, ?_, ?_, ?_, ?_, ?_, ?_, trivial⟩
                          · refine need_plain rfl (fun a w' hg hin => ?_)
                            have e : a.eval (.tmp 21) = .bool true := ins_ext hin 21 (by kernel_rfl)
                            exact upon_move rfl e
                          · refine need_plain rfl (fun a w' hg hin => ?_)
                            have e : a.eval (.tmp 15) = .int .i64 (i : Int) := ins_ext hin 15 (by kernel_rfl)
                            exact upon_move rfl e
                          · refine need_plain rfl (fun a w' hg hin => ?_)
                            have e100 : a.eval (.tmp 100) = .int .i64 (i : Int) := ins_on hin 1 (by kernel_rfl)
                            refine upon_val ?_ rfl
                            clear hin hg
                            have ek : ∀ x, a.eval (.const x) = x := fun _ => rfl
                            have ef : ∀ f, a.eval (.func f) = .func (.func f) #[] #[] := fun _ => rfl
                            generalize a.eval = ev at *
                            go_simp
                            all_goals first | done | omega | (intro _; omega) | go_arith
                          · refine need_plain rfl (fun a w' hg hin => ?_)
                            have e99 : a.eval (.tmp 99) = .bool true := ins_on hin 0 (by kernel_rfl)
                            have e101 : a.eval (.tmp 101) = .bool true := ins_on hin 2 (by kernel_rfl)
                            refine upon_val ?_ rfl
                            clear hin hg
                            have ek : ∀ x, a.eval (.const x) = x := fun _ => rfl
                            have ef : ∀ f, a.eval (.func f) = .func (.func f) #[] #[] := fun _ => rfl
                            generalize a.eval = ev at *
                            go_simp
                            all_goals first | done | omega | (intro _; omega) | go_arith
                          · refine need_plain rfl (fun a w' hg hin => ?_)
                            have e : a.eval (.tmp 102) = .bool false := ins_on hin 3 (by kernel_rfl)
                            exact upon_move rfl e
                          · refine need_yes 4 false rfl (fun a w' hin => ins_on hin 4 (by kernel_rfl)) (fun a w' hg hin => ?_)
                            have e : a.eval (.tmp 21) = .bool true := ins_ext hin 21 (by kernel_rfl)
                            exact upon_move rfl e
                          · refine need_yes 4 false rfl (fun a w' hin => ins_on hin 4 (by kernel_rfl)) (fun a w' hg hin => ?_)
                            have e : a.eval (.tmp 104) = .bool true := ins_on hin 5 (by kernel_rfl)
                            exact upon_move rfl e
                          · refine need_yes 6 true rfl (fun a w' hin => ins_on hin 6 (by kernel_rfl)) (fun a w' hg hin => ?_)
                            have e20 : a.eval (.tmp 20) = .pointer (some ⟨ga, 0, none⟩) := ins_ext hin 20 (by kernel_rfl)
                            have hA := (hg.block _ (heap_lt hA7)).trans hA7
                            have z0 := box_cell hA 0 _ rfl
                            have z1 := box_cell hA 1 _ rfl
                            have z2 := box_cell hA 2 _ rfl
                            have z3 := box_cell hA 3 _ rfl
                            have z4 := box_cell hA 4 _ rfl
                            refine upon_val ?_ rfl
                            clear hin hg hA
                            have ek : ∀ x, a.eval (.const x) = x := fun _ => rfl
                            have ef : ∀ f, a.eval (.func f) = .func (.func f) #[] #[] := fun _ => rfl
                            generalize a.eval = ev at *
                            go_simp
                            all_goals first | done | omega | (intro _; omega) | go_arith
                          · refine need_yes 6 true rfl (fun a w' hin => ins_on hin 6 (by kernel_rfl)) (fun a w' hg hin => ?_)
                            have e106 : a.eval (.tmp 106) = .agg #[.int .i64 x.rc.kind, .int .i64 x.rc.key, .int .i64 x.rc.ver, .slice a4 x.rc.data.length c4, .int .i64 x.pair] := ins_on hin 7 (by kernel_rfl)
                            refine upon_step (v := .slice (some ⟨w'.heap.size, 0, none⟩) 1 1) (w' := w'.alloc (.cells #[.int .i64 x.rc.kind, .int .i64 x.rc.key, .int .i64 x.rc.ver, .slice a4 x.rc.data.length c4, .int .i64 x.pair] 71)) ?_ (grow_alloc _ _) (EntsP.of (slice_one (heap_new _ _ _) (bytes_s (bytes_grow hbx (hg.trans (grow_alloc _ _))))))
                            clear hin hg
                            have ek : ∀ x, a.eval (.const x) = x := fun _ => rfl
                            have ef : ∀ f, a.eval (.func f) = .func (.func f) #[] #[] := fun _ => rfl
                            generalize a.eval = ev at *
                            go_simp
                            all_goals first | done | omega | (intro _; omega) | go_arith
                          · refine need_yes 6 true rfl (fun a w' hin => ins_on hin 6 (by kernel_rfl)) (fun a w' hg hin => ?_)
                            have e : a.eval (.tmp 1) = .slice (some ⟨b, off, none⟩) l.length lc := ins_ext hin 1 (by kernel_rfl)
                            exact upon_move rfl e
                          · refine need_yes 6 true rfl (fun a w' hin => ins_on hin 6 (by kernel_rfl)) (fun a w' hg hin => ?_)
                            have e : a.eval (.tmp 15) = .int .i64 (i : Int) := ins_ext hin 15 (by kernel_rfl)
                            exact upon_move rfl e
                          · refine need_yes 6 true rfl (fun a w' hin => ins_on hin 6 (by kernel_rfl)) (fun a w' hg hin => ?_)
                            have e : a.eval (.tmp 15) = .int .i64 (i : Int) := ins_ext hin 15 (by kernel_rfl)
                            exact upon_move rfl e
                          · refine need_yes 6 true rfl (fun a w' hin => ins_on hin 6 (by kernel_rfl)) (fun a w' hg hin => ?_)
                            have e110 : a.eval (.tmp 110) = .int .i64 (i : Int) := ins_on hin 11 (by kernel_rfl)
                            refine upon_val ?_ rfl
                            clear hin hg
                            have ek : ∀ x, a.eval (.const x) = x := fun _ => rfl
                            have ef : ∀ f, a.eval (.func f) = .func (.func f) #[] #[] := fun _ => rfl
                            generalize a.eval = ev at *
                            go_simp
                            all_goals first | done | omega | (intro _; omega) | go_arith
                          · refine need_yes 6 true rfl (fun a w' hin => ins_on hin 6 (by kernel_rfl)) (fun a w' hg hin => ?_)
                            have e108 : a.eval (.tmp 108) = .slice (some ⟨b, off, none⟩) l.length lc := ins_on hin 9 (by kernel_rfl)
                            have e109 : a.eval (.tmp 109) = .int .i64 (i : Int) := ins_on hin 10 (by kernel_rfl)
                            have e111 : a.eval (.tmp 111) = .int .i64 ((i : Int) + 1) := ins_on hin 12 (by kernel_rfl)
                            exact upon_val (run_sub w' a.eval _ _ _ _ rfl b off l.length lc i hi hcap e108 e109 e111) rfl
                          · refine need_yes 6 true rfl (fun a w' hin => ins_on hin 6 (by kernel_rfl)) (fun a w' hg hin => ?_)
                            have e107 : ((fun v w' => EntsP w' v [x])) (a.eval (.tmp 107)) w' := ins_on hin 8 (by kernel_rfl)
                            have e112 : a.eval (.tmp 112) = .slice (some ⟨b, off + i * 5, none⟩) 1 (lc - i) := ins_on hin 13 (by kernel_rfl)
                            obtain ⟨a9, c9, h9⟩ : ∃ p q, a.eval (.tmp 107) = .slice p 1 q := SliceS.form e107
                            refine upon_call (f := 58) (args := #[.slice a9 1 c9, .slice (some ⟨b, off + i * 5, none⟩) 1 (lc - i)]) ?_ ((rsameE_any [x] [x] _ _ _ _ w' (by rw [← h9]; exact e107) (hone.grow hg) (by simp)).mono ?_)
                            · clear hin hg e107
                              have ek : ∀ x, a.eval (.const x) = x := fun _ => rfl
                              have ef : ∀ f, a.eval (.func f) = .func (.func f) #[] #[] := fun _ => rfl
                              generalize a.eval = ev at *
                              go_simp
                              all_goals first | done | omega | (intro _; omega) | go_arith
                            · rw [sameE_refl]
                              rintro r w2 ⟨rfl, g2⟩
                              exact ⟨_, rfl, g2, rfl⟩
                          · refine need_yes 6 true rfl (fun a w' hin => ins_on hin 6 (by kernel_rfl)) (fun a w' hg hin => ?_)
                            have e113 : a.eval (.tmp 113) = .bool true := ins_on hin 14 (by kernel_rfl)
                            refine upon_val ?_ rfl
                            clear hin hg
                            have ek : ∀ x, a.eval (.const x) = x := fun _ => rfl
                            have ef : ∀ f, a.eval (.func f) = .func (.func f) #[] #[] := fun _ => rfl
                            generalize a.eval = ev at *
                            go_simp
                            all_goals first | done | omega | (intro _; omega) | go_arith
                          · refine need_yes 4 false rfl (fun a w' hin => ins_on hin 4 (by kernel_rfl)) (fun a w' hg hin => ?_)
                            have ec : a.eval (.tmp 105) = .bool true := ins_on hin 6 (by kernel_rfl)
                            have e : a.eval (.tmp 114) = .bool false := ins_on hin 15 (by kernel_rfl)
                            exact upon_pick rfl ec e
                          · refine need_plain rfl (fun a w' hg hin => ?_)
                            have ec : a.eval (.tmp 103) = .bool false := ins_on hin 4 (by kernel_rfl)
                            have e : a.eval (.tmp 115) = .bool false := ins_on hin 16 (by kernel_rfl)
                            exact upon_pick rfl ec e
                          · refine need_plain rfl (fun a w' hg hin => ?_)
                            have e : a.eval (.tmp 116) = .bool false := ins_on hin 17 (by kernel_rfl)
                            exact upon_move rfl e
                          · refine need_yes 18 false rfl (fun a w' hin => ins_on hin 18 (by kernel_rfl)) (fun a w' hg hin => ?_)
                            have e : a.eval (.tmp 23) = .bool true := ins_ext hin 23 (by kernel_rfl)
                            exact upon_move rfl e
                          · refine need_yes 18 false rfl (fun a w' hin => ins_on hin 18 (by kernel_rfl)) (fun a w' hg hin => ?_)
                            have e : a.eval (.tmp 16) = .int .i64 (j : Int) := ins_ext hin 16 (by kernel_rfl)
                            exact upon_move rfl e
                          · refine need_yes 18 false rfl (fun a w' hin => ins_on hin 18 (by kernel_rfl)) (fun a w' hg hin => ?_)
                            have e119 : a.eval (.tmp 119) = .int .i64 (j : Int) := ins_on hin 20 (by kernel_rfl)
                            refine upon_val ?_ rfl
                            clear hin hg
                            have ek : ∀ x, a.eval (.const x) = x := fun _ => rfl
                            have ef : ∀ f, a.eval (.func f) = .func (.func f) #[] #[] := fun _ => rfl
                            generalize a.eval = ev at *
                            go_simp
                            all_goals first | done | omega | (intro _; omega) | go_arith
                          · refine need_yes 18 false rfl (fun a w' hin => ins_on hin 18 (by kernel_rfl)) (fun a w' hg hin => ?_)
                            have e118 : a.eval (.tmp 118) = .bool true := ins_on hin 19 (by kernel_rfl)
                            have e120 : a.eval (.tmp 120) = .bool true := ins_on hin 21 (by kernel_rfl)
                            refine upon_val ?_ rfl
                            clear hin hg
                            have ek : ∀ x, a.eval (.const x) = x := fun _ => rfl
                            have ef : ∀ f, a.eval (.func f) = .func (.func f) #[] #[] := fun _ => rfl
                            generalize a.eval = ev at *
                            go_simp
                            all_goals first | done | omega | (intro _; omega) | go_arith
                          · refine need_plain rfl (fun a w' hg hin => ?_)
                            have ec : a.eval (.tmp 117) = .bool false := ins_on hin 18 (by kernel_rfl)
                            have e : a.eval (.tmp 121) = .bool false := ins_on hin 22 (by kernel_rfl)
                            exact upon_pick rfl ec e
                          · refine need_plain rfl (fun a w' hg hin => ?_)
                            have e : a.eval (.tmp 122) = .bool false := ins_on hin 23 (by kernel_rfl)
                            exact upon_move rfl e
                          · refine need_yes 24 false rfl (fun a w' hin => ins_on hin 24 (by kernel_rfl)) (fun a w' hg hin => ?_)
                            have e : a.eval (.tmp 23) = .bool true := ins_ext hin 23 (by kernel_rfl)
                            exact upon_move rfl e
                          · refine need_yes 24 false rfl (fun a w' hin => ins_on hin 24 (by kernel_rfl)) (fun a w' hg hin => ?_)
                            have e : a.eval (.tmp 124) = .bool true := ins_on hin 25 (by kernel_rfl)
                            exact upon_move rfl e
                          · refine need_yes 26 true rfl (fun a w' hin => ins_on hin 26 (by kernel_rfl)) (fun a w' hg hin => ?_)
                            have e22 : a.eval (.tmp 22) = .pointer (some ⟨gc, 0, none⟩) := ins_ext hin 22 (by kernel_rfl)
                            have hA := (hg.block _ (heap_lt hC7)).trans hC7
                            have z0 := box_cell hA 0 _ rfl
                            have z1 := box_cell hA 1 _ rfl
                            have z2 := box_cell hA 2 _ rfl
                            have z3 := box_cell hA 3 _ rfl
                            have z4 := box_cell hA 4 _ rfl
                            refine upon_val ?_ rfl
                            clear hin hg hA
                            have ek : ∀ x, a.eval (.const x) = x := fun _ => rfl
                            have ef : ∀ f, a.eval (.func f) = .func (.func f) #[] #[] := fun _ => rfl
                            generalize a.eval = ev at *
                            go_simp
                            all_goals first | done | omega | (intro _; omega) | go_arith
                          · refine need_yes 26 true rfl (fun a w' hin => ins_on hin 26 (by kernel_rfl)) (fun a w' hg hin => ?_)
                            have e126 : a.eval (.tmp 126) = .agg #[.int .i64 z.rc.kind, .int .i64 z.rc.key, .int .i64 z.rc.ver, .slice a6 z.rc.data.length c6, .int .i64 z.pair] := ins_on hin 27 (by kernel_rfl)
                            refine upon_step (v := .slice (some ⟨w'.heap.size, 0, none⟩) 1 1) (w' := w'.alloc (.cells #[.int .i64 z.rc.kind, .int .i64 z.rc.key, .int .i64 z.rc.ver, .slice a6 z.rc.data.length c6, .int .i64 z.pair] 71)) ?_ (grow_alloc _ _) (EntsP.of (slice_one (heap_new _ _ _) (bytes_s (bytes_grow hbz (hg.trans (grow_alloc _ _))))))
                            clear hin hg
                            have ek : ∀ x, a.eval (.const x) = x := fun _ => rfl
                            have ef : ∀ f, a.eval (.func f) = .func (.func f) #[] #[] := fun _ => rfl
                            generalize a.eval = ev at *
                            go_simp
                            all_goals first | done | omega | (intro _; omega) | go_arith
                          · refine need_yes 26 true rfl (fun a w' hin => ins_on hin 26 (by kernel_rfl)) (fun a w' hg hin => ?_)
                            have e : a.eval (.tmp 1) = .slice (some ⟨b, off, none⟩) l.length lc := ins_ext hin 1 (by kernel_rfl)
                            exact upon_move rfl e
                          · refine need_yes 26 true rfl (fun a w' hin => ins_on hin 26 (by kernel_rfl)) (fun a w' hg hin => ?_)
                            have e : a.eval (.tmp 16) = .int .i64 (j : Int) := ins_ext hin 16 (by kernel_rfl)
                            exact upon_move rfl e
                          · refine need_yes 26 true rfl (fun a w' hin => ins_on hin 26 (by kernel_rfl)) (fun a w' hg hin => ?_)
                            have e : a.eval (.tmp 16) = .int .i64 (j : Int) := ins_ext hin 16 (by kernel_rfl)
                            exact upon_move rfl e
                          · refine need_yes 26 true rfl (fun a w' hin => ins_on hin 26 (by kernel_rfl)) (fun a w' hg hin => ?_)
                            have e130 : a.eval (.tmp 130) = .int .i64 (j : Int) := ins_on hin 31 (by kernel_rfl)
                            refine upon_val ?_ rfl
                            clear hin hg
                            have ek : ∀ x, a.eval (.const x) = x := fun _ => rfl
                            have ef : ∀ f, a.eval (.func f) = .func (.func f) #[] #[] := fun _ => rfl
                            generalize a.eval = ev at *
                            go_simp
                            all_goals first | done | omega | (intro _; omega) | go_arith
                          · refine need_yes 26 true rfl (fun a w' hin => ins_on hin 26 (by kernel_rfl)) (fun a w' hg hin => ?_)
                            have e128 : a.eval (.tmp 128) = .slice (some ⟨b, off, none⟩) l.length lc := ins_on hin 29 (by kernel_rfl)
                            have e129 : a.eval (.tmp 129) = .int .i64 (j : Int) := ins_on hin 30 (by kernel_rfl)
                            have e131 : a.eval (.tmp 131) = .int .i64 ((j : Int) + 1) := ins_on hin 32 (by kernel_rfl)
                            exact upon_val (run_sub w' a.eval _ _ _ _ rfl b off l.length lc j hj hcap e128 e129 e131) rfl
                          · refine need_yes 26 true rfl (fun a w' hin => ins_on hin 26 (by kernel_rfl)) (fun a w' hg hin => ?_)
                            have e127 : ((fun v w' => EntsP w' v [z])) (a.eval (.tmp 127)) w' := ins_on hin 28 (by kernel_rfl)
                            have e132 : a.eval (.tmp 132) = .slice (some ⟨b, off + j * 5, none⟩) 1 (lc - j) := ins_on hin 33 (by kernel_rfl)
                            obtain ⟨a9, c9, h9⟩ : ∃ p q, a.eval (.tmp 127) = .slice p 1 q := SliceS.form e127
                            refine upon_call (f := 58) (args := #[.slice a9 1 c9, .slice (some ⟨b, off + j * 5, none⟩) 1 (lc - j)]) ?_ ((rsameE_any [z] [z] _ _ _ _ w' (by rw [← h9]; exact e127) (htwo.grow hg) (by simp)).mono ?_)
                            · clear hin hg e127
                              have ek : ∀ x, a.eval (.const x) = x := fun _ => rfl
                              have ef : ∀ f, a.eval (.func f) = .func (.func f) #[] #[] := fun _ => rfl
                              generalize a.eval = ev at *
                              go_simp
                              all_goals first | done | omega | (intro _; omega) | go_arith
                            · rw [sameE_refl]
                              rintro r w2 ⟨rfl, g2⟩
                              exact ⟨_, rfl, g2, rfl⟩
                          · refine need_yes 26 true rfl (fun a w' hin => ins_on hin 26 (by kernel_rfl)) (fun a w' hg hin => ?_)
                            have e133 : a.eval (.tmp 133) = .bool true := ins_on hin 34 (by kernel_rfl)
                            refine upon_val ?_ rfl
                            clear hin hg
                            have ek : ∀ x, a.eval (.const x) = x := fun _ => rfl
                            have ef : ∀ f, a.eval (.func f) = .func (.func f) #[] #[] := fun _ => rfl
                            generalize a.eval = ev at *
                            go_simp
                            all_goals first | done | omega | (intro _; omega) | go_arith
                          · refine need_yes 24 false rfl (fun a w' hin => ins_on hin 24 (by kernel_rfl)) (fun a w' hg hin => ?_)
                            have ec : a.eval (.tmp 125) = .bool true := ins_on hin 26 (by kernel_rfl)
                            have e : a.eval (.tmp 134) = .bool false := ins_on hin 35 (by kernel_rfl)
                            exact upon_pick rfl ec e
                          · refine need_plain rfl (fun a w' hg hin => ?_)
                            have ec : a.eval (.tmp 123) = .bool false := ins_on hin 24 (by kernel_rfl)
                            have e : a.eval (.tmp 135) = .bool false := ins_on hin 36 (by kernel_rfl)
                            exact upon_pick rfl ec e
                        · intro vs w' hg ht
                          obtain ⟨q99, q100, q101, q102, q103, q104, q105, q106, q107, q108, q109, q110, q111, q112, q113, q114, q115, q116, q117, q118, q119, q120, q121, q122, q123, q124, q125, q126, q127, q128, q129, q130, q131, q132, q133, q134, q135, q136, -⟩ := ht
                          have r99 : vs 0 = .bool true := q99
                          have r100 : vs 1 = .int .i64 (i : Int) := q100
                          have r101 : vs 2 = .bool true := q101
                          have r102 : vs 3 = .bool false := q102
                          have r103 : vs 4 = .bool false := q103
                          have r104 : vs 5 = .bool true := q104
                          have r105 : vs 6 = .bool true := q105
                          have r106 : vs 7 = .agg #[.int .i64 x.rc.kind, .int .i64 x.rc.key, .int .i64 x.rc.ver, .slice a4 x.rc.data.length c4, .int .i64 x.pair] := q106
                          have r108 : vs 9 = .slice (some ⟨b, off, none⟩) l.length lc := q108
                          have r109 : vs 10 = .int .i64 (i : Int) := q109
                          have r110 : vs 11 = .int .i64 (i : Int) := q110
                          have r111 : vs 12 = .int .i64 ((i : Int) + 1) := q111
                          have r112 : vs 13 = .slice (some ⟨b, off + i * 5, none⟩) 1 (lc - i) := q112
                          have r113 : vs 14 = .bool true := q113
                          have r114 : vs 15 = .bool false := q114
                          have r115 : vs 16 = .bool false := q115
                          have r116 : vs 17 = .bool false := q116
                          have r117 : vs 18 = .bool false := q117
                          have r118 : vs 19 = .bool true := q118
                          have r119 : vs 20 = .int .i64 (j : Int) := q119
                          have r120 : vs 21 = .bool true := q120
                          have r121 : vs 22 = .bool false := q121
                          have r122 : vs 23 = .bool false := q122
                          have r123 : vs 24 = .bool false := q123
                          have r124 : vs 25 = .bool true := q124
                          have r125 : vs 26 = .bool true := q125
                          have r126 : vs 27 = .agg #[.int .i64 z.rc.kind, .int .i64 z.rc.key, .int .i64 z.rc.ver, .slice a6 z.rc.data.length c6, .int .i64 z.pair] := q126
                          have r128 : vs 29 = .slice (some ⟨b, off, none⟩) l.length lc := q128
                          have r129 : vs 30 = .int .i64 (j : Int) := q129
                          have r130 : vs 31 = .int .i64 (j : Int) := q130
                          have r131 : vs 32 = .int .i64 ((j : Int) + 1) := q131
                          have r132 : vs 33 = .slice (some ⟨b, off + j * 5, none⟩) 1 (lc - j) := q132
                          have r133 : vs 34 = .bool true := q133
                          have r134 : vs 35 = .bool false := q134
                          have r135 : vs 36 = .bool false := q135
                          have r136 : vs 37 = .bool false := q136
                          clear q99 q100 q101 q102 q103 q104 q105 q106 q108 q109 q110 q111 q112 q113 q114 q115 q116 q117 q118 q119 q120 q121 q122 q123 q124 q125 q126 q128 q129 q130 q131 q132 q133 q134 q135 q136
                          simp only [putAll, Act.put, List.setIfInBounds_toArray, List.set_cons_zero, List.set_cons_succ, r99, r100, r101, r102, r103, r104, r105, r106, r108, r109, r110, r111, r112, r113, r114, r115, r116, r117, r118, r119, r120, r121, r122, r123, r124, r125, r126, r128, r129, r130, r131, r132, r133, r134, r135, r136]
                          clear r99 r100 r101 r102 r103 r104 r105 r106 r108 r109 r110 r111 r112 r113 r114 r115 r116 r117 r118 r119 r120 r121 r122 r123 r124 r125 r126 r128 r129 r130 r131 r132 r133 r134 r135 r136
                          clear q107
                          clear q127
                          generalize vs 8 = u107
                          generalize vs 28 = u127
                          go_wp2_with fail
                          go_meet
                          exact ⟨rfl, hg⟩
                  case rest =>
                    obtain ⟨rfl, g8⟩ := hcut
                    have gA := gr7.trans g8
                    have hM8 := hM.grow gA
                    have hE8 := (gA.block _ (heap_lt hE)).trans hE
                    have hR8 := EntsP.of (hR.grow gA).slice
                    have hl8 := EntsP.of (hl7.grow g8)
                    have gw8 := gw.trans gA
                    have hask := hM8.ask e.pair hep
                    clear gA g8 gr7 hl7 hM hE hR hlr HX7 HZ7 hA7 hC7 HLS HFS HOL HOF gw hM8
                    have HDL : Hid ((dropE l e.pair).length ≤ 1001) := by
                      show _ ≤ 1001
                      unfold dropE
                      exact Nat.le_trans (List.length_filter_le _ _) hln
                    go_upto_region 28 with fail
                    go_cut [146] (fun c wx => ∃ C : Bool, c = .bool C ∧ (C = false → usedB l e.pair = false ∧ wrong e.rc = 0) ∧ Grow wc wx)
                    case first =>
                      cases hub : usedB l e.pair with
                      | true =>
                        rw [hub] at hask
                        have e4 := box_cell hE8 4 _ rfl
                        clear hub
                        go_wp2_with fail
                        go_meet
                        exact ⟨true, rfl, fun h => (by cases h), Grow.refl _⟩
                      | false =>
                        rw [hub] at hask
                        have HUB : Hid (usedB l e.pair = false) := hub
                        have e0 := box_cell hE8 0 _ rfl
                        have e1 := box_cell hE8 1 _ rfl
                        have e2 := box_cell hE8 2 _ rfl
                        have e3 := box_cell hE8 3 _ rfl
                        have e4 := box_cell hE8 4 _ rfl
                        clear hub
                        go_wp2_with fail
                        refine (rwrong_any _ _ _ e.rc.data _ _ (bytes_grow he gw8)).mono ?_
                        have HWW : Hid (wrong ⟨e.rc.kind, e.rc.key, e.rc.ver, e.rc.data⟩ = wrong e.rc) := rfl
                        rw [HWW.out]
                        by_cases hwr : wrong e.rc = 0
                        · rw [hwr]
                          have HWR : Hid (wrong e.rc = 0) := hwr
                          clear hwr HWW
                          rintro r w9 ⟨rfl, g9⟩
                          clear hask e0 e1 e2 e3 e4
                          go_wp2_with fail
                          go_meet
                          exact ⟨false, rfl, fun _ => ⟨HUB.out, HWR.out⟩, g9⟩
                        · have d9 : (wrong e.rc != 0) = true := by simp [hwr]
                          generalize wrong e.rc = E at *
                          clear hwr HWW
                          rintro r w9 ⟨rfl, g9⟩
                          clear hask e0 e1 e2 e3 e4
                          go_wp2_with fail
                          go_meet
                          exact ⟨true, rfl, fun h => (by cases h), g9⟩
                    case rest =>
                      obtain ⟨C, rfl, HC, g10⟩ := hcut
                      replace hE8 := (g10.block _ (heap_lt hE8)).trans hE8
                      replace hR8 := st_entsp _ _ _ _ g10 hR8
                      replace hl8 := st_entsp _ _ _ _ g10 hl8
                      replace gw8 := gw8.trans g10
                      clear g10 hask
                      cases C with
                      | true =>
                        clear HC
                        have e4 := box_cell hE8 4 _ rfl
                        go_wp2_with fail
                        refine (HFC _ l pairs _ _ HRL.out hpp' hl8).mono ?_
                        rintro r w11 ⟨n11, rfl, h11, g11⟩
                        obtain rfl := free_one h11 HFO.out
                        replace hE8 := (g11.block _ (heap_lt hE8)).trans hE8
                        replace hR8 := st_entsp _ _ _ _ g11 hR8
                        replace hl8 := st_entsp _ _ _ _ g11 hl8
                        replace gw8 := gw8.trans g11
                        clear g11 h11 e4
                        go_wp2_with fail
                        refine (HOC _ l _ _ (fun b h => h) HRL.out hl8.s).mono ?_
                        rintro r w12 ⟨v12, rfl, h12, g12⟩
                        obtain ⟨a12, c12, rfl⟩ := h12.form
                        replace hE8 := (g12.block _ (heap_lt hE8)).trans hE8
                        replace hR8 := st_entsp _ _ _ _ g12 hR8
                        replace hl8 := st_entsp _ _ _ _ g12 hl8
                        replace gw8 := gw8.trans g12
                        clear g12
                        go_wp2_with fail
                        refine (rsameE_any l l _ _ _ _ _ h12 hl8 (by omega)).mono ?_
                        rw [sameE_refl]
                        rintro r w13 ⟨rfl, g13⟩
                        replace hE8 := (g13.block _ (heap_lt hE8)).trans hE8
                        replace hR8 := st_entsp _ _ _ _ g13 hR8
                        replace hl8 := st_entsp _ _ _ _ g13 hl8
                        replace gw8 := gw8.trans g13
                        clear g13 h12
                        have e4 := box_cell hE8 4 _ rfl
                        go_wp2_with fail
                        refine (HDC _ l e.pair _ _ (fun b h => h) HRL.out hl8.s).mono ?_
                        rintro r w14 ⟨v14, rfl, h14, g14⟩
                        obtain ⟨a14, c14, rfl⟩ := h14.form
                        replace hR8 := st_entsp _ _ _ _ g14 hR8
                        replace gw8 := gw8.trans g14
                        clear g14 e4 hE8 hl8
                        go_wp2_with fail
                        refine (rsameE_any (dropE l e.pair) (dropE l e.pair) _ _ _ _ _ h14 hR8 (by have := HDL.out; omega)).mono ?_
                        rw [sameE_refl]
                        rintro r w15 ⟨rfl, g15⟩
                        replace gw8 := gw8.trans g15
                        clear g15 h14 hR8
                        go_wp2_with fail
                        go_ret
                        exact ⟨rfl, gw8⟩
                      | false =>
                        have HNP : Hid (∀ x ∈ l, x.pair ≠ e.pair) := fun x hx hxp => by
                          have h1 := (used_iff l e.pair).2 ⟨x, hx, hxp⟩
                          rw [(HC rfl).1] at h1; cases h1
                        have HWR : Hid (wrong e.rc = 0) := (HC rfl).2
                        have HIL : Hid ((insertE e l).length ≤ 1002) := by show _ ≤ 1002; rw [insertE_exact]; omega
                        clear HC
                        go_wp2_with fail
                        refine wp_region_told [ex (.slice lo l.length lc), ex (.int .i64 pairs), ex (.int .i64 F), ex (.int .i64 F), ex (.bool true), ex (.bool true), ex (.slice lo l.length lc), ((fun v w' => EntsP w' v l)), ex (.slice lo l.length lc), ex (.bool true), ex (.bool true), ex (.bool true), ex (.slice lo l.length lc), ex (.pointer (some ⟨w.heap.size + 1, 4, none⟩)), ex (.int .i64 e.pair), ((fun v w' => EntsP w' v (dropE l e.pair))), ex (.slice a0 (dropE l e.pair).length c0), ex (.bool true), ex (.bool true), ex (.bool true), ex (.slice lo l.length lc), ex (.agg #[.int .i64 e.rc.kind, .int .i64 e.rc.key, .int .i64 e.rc.ver, .slice ea e.rc.data.length ec, .int .i64 e.pair]), ((fun v w' => EntsP w' v (insertE e l))), ex (.slice lo l.length lc), ex (.agg #[.int .i64 e.rc.kind, .int .i64 e.rc.key, .int .i64 e.rc.ver, .slice ea e.rc.data.length ec, .int .i64 e.pair]), ((fun v w' => EntsP w' v (insertE e l))), ex (.bool true), ex (.bool true), ex (.bool true)] (by kernel_rfl) (by kernel_rfl) ⟨st_ex _, st_ex _, st_ex _, st_ex _, st_ex _, st_ex _, st_ex _, st_entsp _, st_ex _, st_ex _, st_ex _, st_ex _, st_ex _, st_ex _, st_ex _, st_entsp _, st_ex _, st_ex _, st_ex _, st_ex _, st_ex _, st_ex _, st_entsp _, st_ex _, st_ex _, st_entsp _, st_ex _, st_ex _, st_ex _, trivial⟩ ?_ ?_
                        · refine ⟨?_, ?_, ?_, ?_, ?_, ?_, ?_, ?_, ?_, ?_, ?_, ?_, ?_, ?_, ?_, ?_, ?_, ?_, ?_, ?_, ?_, ?_, ?_, ?_, ?_, ?_, ?_, ?_, ?_, trivial⟩
                          · refine need_plain rfl (fun a w' hg hin => ?_)
                            have e : a.eval (.tmp 1) = .slice lo l.length lc := ins_ext hin 1 (by kernel_rfl)
                            exact upon_move rfl e
                          · refine need_plain rfl (fun a w' hg hin => ?_)
                            have e : a.eval (.tmp 5) = .int .i64 pairs := ins_ext hin 5 (by kernel_rfl)
                            exact upon_move rfl e
                          · refine need_plain rfl (fun a w' hg hin => ?_)
                            have e166 : a.eval (.tmp 166) = .slice lo l.length lc := ins_on hin 0 (by kernel_rfl)
                            have e167 : a.eval (.tmp 167) = .int .i64 pairs := ins_on hin 1 (by kernel_rfl)
                            refine upon_call (f := 64) (args := #[.slice lo l.length lc, .int .i64 pairs]) ?_ ((HFC _ l pairs _ w' HRL.out hpp' (SliceS.grow hl8 hg)).mono ?_)
                            · clear hin hg
                              have ek : ∀ x, a.eval (.const x) = x := fun _ => rfl
                              have ef : ∀ f, a.eval (.func f) = .func (.func f) #[] #[] := fun _ => rfl
                              generalize a.eval = ev at *
                              go_simp
                              all_goals first | done | omega | (intro _; omega) | go_arith
                            · rintro r w2 ⟨n2, rfl, h2, g2⟩
                              obtain rfl := free_one h2 HFO.out
                              exact ⟨_, rfl, g2, rfl⟩
                          · refine need_plain rfl (fun a w' hg hin => ?_)
                            have e : a.eval (.tmp 19) = .int .i64 F := ins_ext hin 19 (by kernel_rfl)
                            exact upon_move rfl e
                          · refine need_plain rfl (fun a w' hg hin => ?_)
                            have e168 : a.eval (.tmp 168) = .int .i64 F := ins_on hin 2 (by kernel_rfl)
                            have e169 : a.eval (.tmp 169) = .int .i64 F := ins_on hin 3 (by kernel_rfl)
                            refine upon_val ?_ rfl
                            clear hin hg
                            have ek : ∀ x, a.eval (.const x) = x := fun _ => rfl
                            have ef : ∀ f, a.eval (.func f) = .func (.func f) #[] #[] := fun _ => rfl
                            generalize a.eval = ev at *
                            go_simp
                            all_goals first | done | omega | (intro _; omega) | go_arith
                          · refine need_plain rfl (fun a w' hg hin => ?_)
                            have e : a.eval (.tmp 170) = .bool true := ins_on hin 4 (by kernel_rfl)
                            exact upon_move rfl e
                          · refine need_yes 5 true rfl (fun a w' hin => ins_on hin 5 (by kernel_rfl)) (fun a w' hg hin => ?_)
                            have e : a.eval (.tmp 1) = .slice lo l.length lc := ins_ext hin 1 (by kernel_rfl)
                            exact upon_move rfl e
                          · refine need_yes 5 true rfl (fun a w' hin => ins_on hin 5 (by kernel_rfl)) (fun a w' hg hin => ?_)
                            have e172 : a.eval (.tmp 172) = .slice lo l.length lc := ins_on hin 6 (by kernel_rfl)
                            refine upon_call (f := 65) (args := #[.slice lo l.length lc]) ?_ ((HOC _ l _ w' (fun b h => h) HRL.out (EntsP.s (SliceS.grow hl8 hg))).mono ?_)
                            · clear hin hg
                              have ek : ∀ x, a.eval (.const x) = x := fun _ => rfl
                              have ef : ∀ f, a.eval (.func f) = .func (.func f) #[] #[] := fun _ => rfl
                              generalize a.eval = ev at *
                              go_simp
                              all_goals first | done | omega | (intro _; omega) | go_arith
                            · rintro r w2 ⟨v2, rfl, h2, g2⟩
                              exact ⟨_, rfl, g2, EntsP.of h2⟩
                          · refine need_yes 5 true rfl (fun a w' hin => ins_on hin 5 (by kernel_rfl)) (fun a w' hg hin => ?_)
                            have e : a.eval (.tmp 1) = .slice lo l.length lc := ins_ext hin 1 (by kernel_rfl)
                            exact upon_move rfl e
                          · refine need_yes 5 true rfl (fun a w' hin => ins_on hin 5 (by kernel_rfl)) (fun a w' hg hin => ?_)
                            have e173 : ((fun v w' => EntsP w' v l)) (a.eval (.tmp 173)) w' := ins_on hin 7 (by kernel_rfl)
                            have e174 : a.eval (.tmp 174) = .slice lo l.length lc := ins_on hin 8 (by kernel_rfl)
                            obtain ⟨p9, q9, h9⟩ := SliceS.form e173
                            refine upon_call (f := 58) (args := #[.slice p9 l.length q9, .slice lo l.length lc]) ?_ ((rsameE_any l l _ _ _ _ w' (by rw [← h9]; exact e173) (SliceS.grow hl8 hg) (by omega)).mono ?_)
                            · clear hin hg e173
                              have ek : ∀ x, a.eval (.const x) = x := fun _ => rfl
                              have ef : ∀ f, a.eval (.func f) = .func (.func f) #[] #[] := fun _ => rfl
                              generalize a.eval = ev at *
                              go_simp
                              all_goals first | done | omega | (intro _; omega) | go_arith
                            · rw [sameE_refl]
                              rintro r w2 ⟨rfl, g2⟩
                              exact ⟨_, rfl, g2, rfl⟩
                          · refine need_plain rfl (fun a w' hg hin => ?_)
                            have ec : a.eval (.tmp 171) = .bool true := ins_on hin 5 (by kernel_rfl)
                            have e : a.eval (.tmp 175) = .bool true := ins_on hin 9 (by kernel_rfl)
                            exact upon_pick rfl ec e
                          · refine need_plain rfl (fun a w' hg hin => ?_)
                            have e : a.eval (.tmp 176) = .bool true := ins_on hin 10 (by kernel_rfl)
                            exact upon_move rfl e
                          · refine need_yes 11 true rfl (fun a w' hin => ins_on hin 11 (by kernel_rfl)) (fun a w' hg hin => ?_)
                            have e : a.eval (.tmp 1) = .slice lo l.length lc := ins_ext hin 1 (by kernel_rfl)
                            exact upon_move rfl e
                          · refine need_yes 11 true rfl (fun a w' hin => ins_on hin 11 (by kernel_rfl)) (fun a w' hg hin => ?_)
                            have e8 : a.eval (.tmp 8) = .pointer (some ⟨w.heap.size + 1, 0, none⟩) := ins_ext hin 8 (by kernel_rfl)
                            refine upon_val ?_ rfl
                            clear hin hg
                            have ek : ∀ x, a.eval (.const x) = x := fun _ => rfl
                            have ef : ∀ f, a.eval (.func f) = .func (.func f) #[] #[] := fun _ => rfl
                            generalize a.eval = ev at *
                            go_simp
                            all_goals first | done | omega | (intro _; omega) | go_arith
                          · refine need_yes 11 true rfl (fun a w' hin => ins_on hin 11 (by kernel_rfl)) (fun a w' hg hin => ?_)
                            have e179 : a.eval (.tmp 179) = .pointer (some ⟨w.heap.size + 1, 4, none⟩) := ins_on hin 13 (by kernel_rfl)
                            have hX := (hg.block _ (heap_lt hE8)).trans hE8
                            have z4 := box_cell hX 4 _ rfl
                            refine upon_val ?_ rfl
                            clear hin hg hX
                            have ek : ∀ x, a.eval (.const x) = x := fun _ => rfl
                            have ef : ∀ f, a.eval (.func f) = .func (.func f) #[] #[] := fun _ => rfl
                            generalize a.eval = ev at *
                            go_simp
                            all_goals first | done | omega | (intro _; omega) | go_arith
                          · refine need_yes 11 true rfl (fun a w' hin => ins_on hin 11 (by kernel_rfl)) (fun a w' hg hin => ?_)
                            have e178 : a.eval (.tmp 178) = .slice lo l.length lc := ins_on hin 12 (by kernel_rfl)
                            have e180 : a.eval (.tmp 180) = .int .i64 e.pair := ins_on hin 14 (by kernel_rfl)
                            refine upon_call (f := 66) (args := #[.slice lo l.length lc, .int .i64 e.pair]) ?_ ((HDC _ l e.pair _ w' (fun b h => h) HRL.out (EntsP.s (SliceS.grow hl8 hg))).mono ?_)
                            · clear hin hg
                              have ek : ∀ x, a.eval (.const x) = x := fun _ => rfl
                              have ef : ∀ f, a.eval (.func f) = .func (.func f) #[] #[] := fun _ => rfl
                              generalize a.eval = ev at *
                              go_simp
                              all_goals first | done | omega | (intro _; omega) | go_arith
                            · rintro r w2 ⟨v2, rfl, h2, g2⟩
                              exact ⟨_, rfl, g2, EntsP.of h2⟩
                          · refine need_yes 11 true rfl (fun a w' hin => ins_on hin 11 (by kernel_rfl)) (fun a w' hg hin => ?_)
                            have e : a.eval (.tmp 14) = .slice a0 (dropE l e.pair).length c0 := ins_ext hin 14 (by kernel_rfl)
                            exact upon_move rfl e
                          · refine need_yes 11 true rfl (fun a w' hin => ins_on hin 11 (by kernel_rfl)) (fun a w' hg hin => ?_)
                            have e181 : ((fun v w' => EntsP w' v (dropE l e.pair))) (a.eval (.tmp 181)) w' := ins_on hin 15 (by kernel_rfl)
                            have e182 : a.eval (.tmp 182) = .slice a0 (dropE l e.pair).length c0 := ins_on hin 16 (by kernel_rfl)
                            obtain ⟨p9, q9, h9⟩ := SliceS.form e181
                            refine upon_call (f := 58) (args := #[.slice p9 (dropE l e.pair).length q9, .slice a0 (dropE l e.pair).length c0]) ?_ ((rsameE_any _ _ _ _ _ _ w' (by rw [← h9]; exact e181) (SliceS.grow hR8 hg) (by have := HDL.out; omega)).mono ?_)
                            · clear hin hg e181
                              have ek : ∀ x, a.eval (.const x) = x := fun _ => rfl
                              have ef : ∀ f, a.eval (.func f) = .func (.func f) #[] #[] := fun _ => rfl
                              generalize a.eval = ev at *
                              go_simp
                              all_goals first | done | omega | (intro _; omega) | go_arith
                            · rw [sameE_refl]
                              rintro r w2 ⟨rfl, g2⟩
                              exact ⟨_, rfl, g2, rfl⟩
                          · refine need_plain rfl (fun a w' hg hin => ?_)
                            have ec : a.eval (.tmp 177) = .bool true := ins_on hin 11 (by kernel_rfl)
                            have e : a.eval (.tmp 183) = .bool true := ins_on hin 17 (by kernel_rfl)
                            exact upon_pick rfl ec e
                          · refine need_plain rfl (fun a w' hg hin => ?_)
                            have e : a.eval (.tmp 184) = .bool true := ins_on hin 18 (by kernel_rfl)
                            exact upon_move rfl e
                          · refine need_yes 19 true rfl (fun a w' hin => ins_on hin 19 (by kernel_rfl)) (fun a w' hg hin => ?_)
                            have e : a.eval (.tmp 1) = .slice lo l.length lc := ins_ext hin 1 (by kernel_rfl)
                            exact upon_move rfl e
                          · refine need_yes 19 true rfl (fun a w' hin => ins_on hin 19 (by kernel_rfl)) (fun a w' hg hin => ?_)
                            have e8 : a.eval (.tmp 8) = .pointer (some ⟨w.heap.size + 1, 0, none⟩) := ins_ext hin 8 (by kernel_rfl)
                            have hX := (hg.block _ (heap_lt hE8)).trans hE8
                            have z0 := box_cell hX 0 _ rfl
                            have z1 := box_cell hX 1 _ rfl
                            have z2 := box_cell hX 2 _ rfl
                            have z3 := box_cell hX 3 _ rfl
                            have z4 := box_cell hX 4 _ rfl
                            refine upon_val ?_ rfl
                            clear hin hg hX
                            have ek : ∀ x, a.eval (.const x) = x := fun _ => rfl
                            have ef : ∀ f, a.eval (.func f) = .func (.func f) #[] #[] := fun _ => rfl
                            generalize a.eval = ev at *
                            go_simp
                            all_goals first | done | omega | (intro _; omega) | go_arith
                          · refine need_yes 19 true rfl (fun a w' hin => ins_on hin 19 (by kernel_rfl)) (fun a w' hg hin => ?_)
                            have e186 : a.eval (.tmp 186) = .slice lo l.length lc := ins_on hin 20 (by kernel_rfl)
                            have e187 : a.eval (.tmp 187) = .agg #[.int .i64 e.rc.kind, .int .i64 e.rc.key, .int .i64 e.rc.ver, .slice ea e.rc.data.length ec, .int .i64 e.pair] := ins_on hin 21 (by kernel_rfl)
                            refine upon_call (f := 67) (args := #[.slice lo l.length lc, .agg #[.int .i64 e.rc.kind, .int .i64 e.rc.key, .int .i64 e.rc.ver, .slice ea e.rc.data.length ec, .int .i64 e.pair]]) ?_ ((HAC _ l e ea ec _ w' (fun b h => h) HRL.out HNP.out HWR.out (EntsP.s (SliceS.grow hl8 hg)) (bytes_s (bytes_grow he (gw8.trans hg)))).mono ?_)
                            · clear hin hg
                              have ek : ∀ x, a.eval (.const x) = x := fun _ => rfl
                              have ef : ∀ f, a.eval (.func f) = .func (.func f) #[] #[] := fun _ => rfl
                              generalize a.eval = ev at *
                              go_simp
                              all_goals first | done | omega | (intro _; omega) | go_arith
                            · rintro r w2 ⟨v2, rfl, h2, g2⟩
                              exact ⟨_, rfl, g2, EntsP.of h2⟩
                          · refine need_yes 19 true rfl (fun a w' hin => ins_on hin 19 (by kernel_rfl)) (fun a w' hg hin => ?_)
                            have e : a.eval (.tmp 1) = .slice lo l.length lc := ins_ext hin 1 (by kernel_rfl)
                            exact upon_move rfl e
                          · refine need_yes 19 true rfl (fun a w' hin => ins_on hin 19 (by kernel_rfl)) (fun a w' hg hin => ?_)
                            have e8 : a.eval (.tmp 8) = .pointer (some ⟨w.heap.size + 1, 0, none⟩) := ins_ext hin 8 (by kernel_rfl)
                            have hX := (hg.block _ (heap_lt hE8)).trans hE8
                            have z0 := box_cell hX 0 _ rfl
                            have z1 := box_cell hX 1 _ rfl
                            have z2 := box_cell hX 2 _ rfl
                            have z3 := box_cell hX 3 _ rfl
                            have z4 := box_cell hX 4 _ rfl
                            refine upon_val ?_ rfl
                            clear hin hg hX
                            have ek : ∀ x, a.eval (.const x) = x := fun _ => rfl
                            have ef : ∀ f, a.eval (.func f) = .func (.func f) #[] #[] := fun _ => rfl
                            generalize a.eval = ev at *
                            go_simp
                            all_goals first | done | omega | (intro _; omega) | go_arith
                          · refine need_yes 19 true rfl (fun a w' hin => ins_on hin 19 (by kernel_rfl)) (fun a w' hg hin => ?_)
                            have e189 : a.eval (.tmp 189) = .slice lo l.length lc := ins_on hin 23 (by kernel_rfl)
                            have e190 : a.eval (.tmp 190) = .agg #[.int .i64 e.rc.kind, .int .i64 e.rc.key, .int .i64 e.rc.ver, .slice ea e.rc.data.length ec, .int .i64 e.pair] := ins_on hin 24 (by kernel_rfl)
                            refine upon_call (f := 68) (args := #[.slice lo l.length lc, .agg #[.int .i64 e.rc.kind, .int .i64 e.rc.key, .int .i64 e.rc.ver, .slice ea e.rc.data.length ec, .int .i64 e.pair]]) ?_ ((rinsert_any _ l e _ ea ec w' (fun b h => h) (EntsP.s (SliceS.grow hl8 hg)) (bytes_s (bytes_grow he (gw8.trans hg))) (by omega)).mono ?_)
                            · clear hin hg
                              have ek : ∀ x, a.eval (.const x) = x := fun _ => rfl
                              have ef : ∀ f, a.eval (.func f) = .func (.func f) #[] #[] := fun _ => rfl
                              generalize a.eval = ev at *
                              go_simp
                              all_goals first | done | omega | (intro _; omega) | go_arith
                            · rintro r w2 ⟨v2, rfl, h2, g2⟩
                              exact ⟨_, rfl, g2, EntsP.of h2⟩
                          · refine need_yes 19 true rfl (fun a w' hin => ins_on hin 19 (by kernel_rfl)) (fun a w' hg hin => ?_)
                            have e188 : ((fun v w' => EntsP w' v (insertE e l))) (a.eval (.tmp 188)) w' := ins_on hin 22 (by kernel_rfl)
                            have e191 : ((fun v w' => EntsP w' v (insertE e l))) (a.eval (.tmp 191)) w' := ins_on hin 25 (by kernel_rfl)
                            obtain ⟨p9, q9, h9⟩ := SliceS.form e188
                            obtain ⟨p8, q8, h8⟩ := SliceS.form e191
                            refine upon_call (f := 58) (args := #[.slice p9 (insertE e l).length q9, .slice p8 (insertE e l).length q8]) ?_ ((rsameE_any _ _ _ _ _ _ w' (by rw [← h9]; exact e188) (by rw [← h8]; exact e191) (by have := HIL.out; omega)).mono ?_)
                            · clear hin hg e188 e191
                              have ek : ∀ x, a.eval (.const x) = x := fun _ => rfl
                              have ef : ∀ f, a.eval (.func f) = .func (.func f) #[] #[] := fun _ => rfl
                              generalize a.eval = ev at *
                              go_simp
                              all_goals first | done | omega | (intro _; omega) | go_arith
                            · rw [sameE_refl]
                              rintro r w2 ⟨rfl, g2⟩
                              exact ⟨_, rfl, g2, rfl⟩
                          · refine need_plain rfl (fun a w' hg hin => ?_)
                            have ec : a.eval (.tmp 185) = .bool true := ins_on hin 19 (by kernel_rfl)
                            have e : a.eval (.tmp 192) = .bool true := ins_on hin 26 (by kernel_rfl)
                            exact upon_pick rfl ec e
                          · refine need_plain rfl (fun a w' hg hin => ?_)
                            have e : a.eval (.tmp 193) = .bool true := ins_on hin 27 (by kernel_rfl)
                            exact upon_assign rfl e
                        · intro vs w' hg ht
                          obtain ⟨q166, q167, q168, q169, q170, q171, q172, q173, q174, q175, q176, q177, q178, q179, q180, q181, q182, q183, q184, q185, q186, q187, q188, q189, q190, q191, q192, q193, q12, -⟩ := ht
                          have r166 : vs 0 = .slice lo l.length lc := q166
                          have r167 : vs 1 = .int .i64 pairs := q167
                          have r168 : vs 2 = .int .i64 F := q168
                          have r169 : vs 3 = .int .i64 F := q169
                          have r170 : vs 4 = .bool true := q170
                          have r171 : vs 5 = .bool true := q171
                          have r172 : vs 6 = .slice lo l.length lc := q172
                          have r174 : vs 8 = .slice lo l.length lc := q174
                          have r175 : vs 9 = .bool true := q175
                          have r176 : vs 10 = .bool true := q176
                          have r177 : vs 11 = .bool true := q177
                          have r178 : vs 12 = .slice lo l.length lc := q178
                          have r179 : vs 13 = .pointer (some ⟨w.heap.size + 1, 4, none⟩) := q179
                          have r180 : vs 14 = .int .i64 e.pair := q180
                          have r182 : vs 16 = .slice a0 (dropE l e.pair).length c0 := q182
                          have r183 : vs 17 = .bool true := q183
                          have r184 : vs 18 = .bool true := q184
                          have r185 : vs 19 = .bool true := q185
                          have r186 : vs 20 = .slice lo l.length lc := q186
                          have r187 : vs 21 = .agg #[.int .i64 e.rc.kind, .int .i64 e.rc.key, .int .i64 e.rc.ver, .slice ea e.rc.data.length ec, .int .i64 e.pair] := q187
                          have r189 : vs 23 = .slice lo l.length lc := q189
                          have r190 : vs 24 = .agg #[.int .i64 e.rc.kind, .int .i64 e.rc.key, .int .i64 e.rc.ver, .slice ea e.rc.data.length ec, .int .i64 e.pair] := q190
                          have r192 : vs 26 = .bool true := q192
                          have r193 : vs 27 = .bool true := q193
                          have r12 : vs 28 = .bool true := q12
                          clear q166 q167 q168 q169 q170 q171 q172 q174 q175 q176 q177 q178 q179 q180 q182 q183 q184 q185 q186 q187 q189 q190 q192 q193 q12
                          simp only [putAll, Act.put, List.setIfInBounds_toArray, List.set_cons_zero, List.set_cons_succ, r166, r167, r168, r169, r170, r171, r172, r174, r175, r176, r177, r178, r179, r180, r182, r183, r184, r185, r186, r187, r189, r190, r192, r193, r12]
                          clear r166 r167 r168 r169 r170 r171 r172 r174 r175 r176 r177 r178 r179 r180 r182 r183 r184 r185 r186 r187 r189 r190 r192 r193 r12
                          have gE := gw8.trans hg
                          clear q173 q181 q188 q191 hg hE8 hR8 hl8
                          go_wp2_with fail
                          go_ret
                          exact ⟨rfl, gE⟩
  case first =>
  generalize World.alloc (World.alloc w _) _ = W at *
  cases hrd : d.right with
  | false =>
    have HRD : Hid (d.right = false) := hrd
    clear hrd hdn
    refine wp_region_told [ex (.agg #[.slice ab d.blocks.length cb, .slice al d.late.length cl]), ex (.bool false), ex (.bool false), ex (undef), ex (undef), ex (undef), ex (undef), ex (undef), ex (undef), ex (.bool false)] (by kernel_rfl) (by kernel_rfl) ⟨st_ex _, st_ex _, st_ex _, st_ex _, st_ex _, st_ex _, st_ex _, st_ex _, st_ex _, st_ex _, trivial⟩ ?_ ?_
    · refine ⟨?_, ?_, ?_, ?_, ?_, ?_, ?_, ?_, ?_, ?_, trivial⟩
      · refine need_plain rfl (fun a w' hg hin => ?_)
        have e6 : a.eval (.tmp 6) = .pointer (some ⟨w.heap.size, 0, none⟩) := ins_ext hin 6 (by kernel_rfl)
        have hD := (hg.block _ (heap_lt hD0)).trans hD0
        have z0 := box_cell hD 0 _ rfl
        have z1 := box_cell hD 1 _ rfl
        refine upon_val ?_ rfl
        clear hin hg hD
        have ek : ∀ x, a.eval (.const x) = x := fun _ => rfl
        have ef : ∀ f, a.eval (.func f) = .func (.func f) #[] #[] := fun _ => rfl
        generalize a.eval = ev at *
        go_simp
        all_goals first | done | omega | (intro _; omega) | go_arith
      · refine need_plain rfl (fun a w' hg hin => ?_)
        have e24 : a.eval (.tmp 24) = .agg #[.slice ab d.blocks.length cb, .slice al d.late.length cl] := ins_on hin 0 (by kernel_rfl)
        refine upon_call (f := 37) (args := #[.agg #[.slice ab d.blocks.length cb, .slice al d.late.length cl]]) ?_ ((rright_c d _ w' (st_diskp _ _ _ _ (gW.trans hg) hd)).mono ?_)
        · clear hin hg
          have ek : ∀ x, a.eval (.const x) = x := fun _ => rfl
          have ef : ∀ f, a.eval (.func f) = .func (.func f) #[] #[] := fun _ => rfl
          generalize a.eval = ev at *
          go_simp
          all_goals first | done | omega | (intro _; omega) | go_arith
        · rintro r w2 ⟨rfl, g2⟩
          exact ⟨_, rfl, g2, by rw [← HRD.out]; rfl⟩
      · refine need_plain rfl (fun a w' hg hin => ?_)
        have e : a.eval (.tmp 25) = .bool false := ins_on hin 1 (by kernel_rfl)
        exact upon_move rfl e
      · refine need_no 2 true false rfl (by decide) (fun a w' hin => ins_on hin 2 (by kernel_rfl)) (fun _ => rfl)
      · refine need_no 2 true false rfl (by decide) (fun a w' hin => ins_on hin 2 (by kernel_rfl)) (fun _ => rfl)
      · refine need_no 2 true false rfl (by decide) (fun a w' hin => ins_on hin 2 (by kernel_rfl)) (fun _ => rfl)
      · refine need_no 2 true false rfl (by decide) (fun a w' hin => ins_on hin 2 (by kernel_rfl)) (fun _ => rfl)
      · refine need_no 2 true false rfl (by decide) (fun a w' hin => ins_on hin 2 (by kernel_rfl)) (fun _ => rfl)
      · refine need_no 2 true false rfl (by decide) (fun a w' hin => ins_on hin 2 (by kernel_rfl)) (fun _ => rfl)
      · refine need_plain rfl (fun a w' hg hin => ?_)
        have ec : a.eval (.tmp 26) = .bool false := ins_on hin 2 (by kernel_rfl)
        exact upon_pick rfl ec rfl
    · intro vs w' hg ht
      obtain ⟨q24, q25, q26, q27, q28, q29, q30, q31, q32, q33, -⟩ := ht
      have r24 : vs 0 = .agg #[.slice ab d.blocks.length cb, .slice al d.late.length cl] := q24
      have r25 : vs 1 = .bool false := q25
      have r26 : vs 2 = .bool false := q26
      have r27 : vs 3 = undef := q27
      have r28 : vs 4 = undef := q28
      have r29 : vs 5 = undef := q29
      have r30 : vs 6 = undef := q30
      have r31 : vs 7 = undef := q31
      have r32 : vs 8 = undef := q32
      have r33 : vs 9 = .bool false := q33
      clear q24 q25 q26 q27 q28 q29 q30 q31 q32 q33
      simp only [putAll, Act.put, List.setIfInBounds_toArray, List.set_cons_zero, List.set_cons_succ, r24, r25, r26, r27, r28, r29, r30, r31, r32, r33]
      clear r24 r25 r26 r27 r28 r29 r30 r31 r32 r33
      go_wp2_with fail
      go_meet
      exact ⟨rfl, gW.trans hg, (hg.block _ (heap_lt hE0)).trans hE0⟩
  | true =>
    have HF : Hid (d.Fine 40) := hdn hrd
    have HRD : Hid (d.right = true) := hrd
    have HQ : Hid (d.blocks.length / 2 = 6) := by show _ = _; rw [HF.out.len]
    have hl256 : d.blocks.length ≤ 256 := by rw [HF.out.len]; omega
    have hm9 : d.late.length ≤ 999990 := by have := HF.out.few; omega
    clear hrd hdn
    refine wp_region_told [ex (.agg #[.slice ab d.blocks.length cb, .slice al d.late.length cl]), ex (.bool true), ex (.bool true), ex (.agg #[.slice ab d.blocks.length cb, .slice al d.late.length cl]), ((fun v w' => EntsP w' v (scanE d 6))), ex (.agg #[.slice ab d.blocks.length cb, .slice al d.late.length cl]), ((fun v w' => EntsP w' v (scanE d 6))), ex (.bool true), ex (.bool false), ex (.bool false)] (by kernel_rfl) (by kernel_rfl) ⟨st_ex _, st_ex _, st_ex _, st_ex _, st_entsp _, st_ex _, st_entsp _, st_ex _, st_ex _, st_ex _, trivial⟩ ?_ ?_
    · refine ⟨?_, ?_, ?_, ?_, ?_, ?_, ?_, ?_, ?_, ?_, trivial⟩
      · refine need_plain rfl (fun a w' hg hin => ?_)
        have e6 : a.eval (.tmp 6) = .pointer (some ⟨w.heap.size, 0, none⟩) := ins_ext hin 6 (by kernel_rfl)
        have hD := (hg.block _ (heap_lt hD0)).trans hD0
        have z0 := box_cell hD 0 _ rfl
        have z1 := box_cell hD 1 _ rfl
        refine upon_val ?_ rfl
        clear hin hg hD
        have ek : ∀ x, a.eval (.const x) = x := fun _ => rfl
        have ef : ∀ f, a.eval (.func f) = .func (.func f) #[] #[] := fun _ => rfl
        generalize a.eval = ev at *
        go_simp
        all_goals first | done | omega | (intro _; omega) | go_arith
      · refine need_plain rfl (fun a w' hg hin => ?_)
        have e24 : a.eval (.tmp 24) = .agg #[.slice ab d.blocks.length cb, .slice al d.late.length cl] := ins_on hin 0 (by kernel_rfl)
        refine upon_call (f := 37) (args := #[.agg #[.slice ab d.blocks.length cb, .slice al d.late.length cl]]) ?_ ((rright_c d _ w' (st_diskp _ _ _ _ (gW.trans hg) hd)).mono ?_)
        · clear hin hg
          have ek : ∀ x, a.eval (.const x) = x := fun _ => rfl
          have ef : ∀ f, a.eval (.func f) = .func (.func f) #[] #[] := fun _ => rfl
          generalize a.eval = ev at *
          go_simp
          all_goals first | done | omega | (intro _; omega) | go_arith
        · rintro r w2 ⟨rfl, g2⟩
          exact ⟨_, rfl, g2, by rw [← HRD.out]; rfl⟩
      · refine need_plain rfl (fun a w' hg hin => ?_)
        have e : a.eval (.tmp 25) = .bool true := ins_on hin 1 (by kernel_rfl)
        exact upon_move rfl e
      · refine need_yes 2 true rfl (fun a w' hin => ins_on hin 2 (by kernel_rfl)) (fun a w' hg hin => ?_)
        have e6 : a.eval (.tmp 6) = .pointer (some ⟨w.heap.size, 0, none⟩) := ins_ext hin 6 (by kernel_rfl)
        have hD := (hg.block _ (heap_lt hD0)).trans hD0
        have z0 := box_cell hD 0 _ rfl
        have z1 := box_cell hD 1 _ rfl
        refine upon_val ?_ rfl
        clear hin hg hD
        have ek : ∀ x, a.eval (.const x) = x := fun _ => rfl
        have ef : ∀ f, a.eval (.func f) = .func (.func f) #[] #[] := fun _ => rfl
        generalize a.eval = ev at *
        go_simp
        all_goals first | done | omega | (intro _; omega) | go_arith
      · refine need_yes 2 true rfl (fun a w' hin => ins_on hin 2 (by kernel_rfl)) (fun a w' hg hin => ?_)
        have e27 : a.eval (.tmp 27) = .agg #[.slice ab d.blocks.length cb, .slice al d.late.length cl] := ins_on hin 3 (by kernel_rfl)
        refine upon_call (f := 59) (args := #[.agg #[.slice ab d.blocks.length cb, .slice al d.late.length cl]]) ?_ ((HSC _ d _ w' (fun b h => h) (HF.out.mono (by omega)) (st_diskp _ _ _ _ (gW.trans hg) hd).s).mono ?_)
        · clear hin hg
          have ek : ∀ x, a.eval (.const x) = x := fun _ => rfl
          have ef : ∀ f, a.eval (.func f) = .func (.func f) #[] #[] := fun _ => rfl
          generalize a.eval = ev at *
          go_simp
          all_goals first | done | omega | (intro _; omega) | go_arith
        · rintro r w2 ⟨v2, rfl, h2, g2⟩
          exact ⟨_, rfl, g2, EntsP.of h2⟩
      · refine need_yes 2 true rfl (fun a w' hin => ins_on hin 2 (by kernel_rfl)) (fun a w' hg hin => ?_)
        have e6 : a.eval (.tmp 6) = .pointer (some ⟨w.heap.size, 0, none⟩) := ins_ext hin 6 (by kernel_rfl)
        have hD := (hg.block _ (heap_lt hD0)).trans hD0
        have z0 := box_cell hD 0 _ rfl
        have z1 := box_cell hD 1 _ rfl
        refine upon_val ?_ rfl
        clear hin hg hD
        have ek : ∀ x, a.eval (.const x) = x := fun _ => rfl
        have ef : ∀ f, a.eval (.func f) = .func (.func f) #[] #[] := fun _ => rfl
        generalize a.eval = ev at *
        go_simp
        all_goals first | done | omega | (intro _; omega) | go_arith
      · refine need_yes 2 true rfl (fun a w' hin => ins_on hin 2 (by kernel_rfl)) (fun a w' hg hin => ?_)
        have e29 : a.eval (.tmp 29) = .agg #[.slice ab d.blocks.length cb, .slice al d.late.length cl] := ins_on hin 5 (by kernel_rfl)
        obtain ⟨vb2, vl2, hv2, hb2, hl2⟩ := (st_diskp _ _ _ _ (gW.trans hg) hd).s
        cases hv2
        refine upon_call (f := 60) (args := #[.agg #[.slice ab d.blocks.length cb, .slice al d.late.length cl]]) ?_ ((rscan_any _ d _ _ w' hb2 hl2 hl256 hm9).mono ?_)
        · clear hin hg hb2 hl2
          have ek : ∀ x, a.eval (.const x) = x := fun _ => rfl
          have ef : ∀ f, a.eval (.func f) = .func (.func f) #[] #[] := fun _ => rfl
          generalize a.eval = ev at *
          go_simp
          all_goals first | done | omega | (intro _; omega) | go_arith
        · rw [HQ.out]
          rintro r w2 ⟨v2, rfl, h2, g2⟩
          exact ⟨_, rfl, g2, EntsP.of h2⟩
      · refine need_yes 2 true rfl (fun a w' hin => ins_on hin 2 (by kernel_rfl)) (fun a w' hg hin => ?_)
        have e28 : ((fun v w' => EntsP w' v (scanE d 6))) (a.eval (.tmp 28)) w' := ins_on hin 4 (by kernel_rfl)
        have e30 : ((fun v w' => EntsP w' v (scanE d 6))) (a.eval (.tmp 30)) w' := ins_on hin 6 (by kernel_rfl)
        obtain ⟨a8, c8, h8⟩ := SliceS.form e28
        obtain ⟨a9, c9, h9⟩ := SliceS.form e30
        refine upon_call (f := 58) (args := #[.slice a8 (scanE d 6).length c8, .slice a9 (scanE d 6).length c9]) ?_ ((rsameE_any (scanE d 6) (scanE d 6) _ _ _ _ w' (by rw [← h8]; exact e28) (by rw [← h9]; exact e30) (by have := scanE_len d 6; omega)).mono ?_)
        · clear hin hg e28 e30
          have ek : ∀ x, a.eval (.const x) = x := fun _ => rfl
          have ef : ∀ f, a.eval (.func f) = .func (.func f) #[] #[] := fun _ => rfl
          generalize a.eval = ev at *
          go_simp
          all_goals first | done | omega | (intro _; omega) | go_arith
        · rw [sameE_refl]
          rintro r w2 ⟨rfl, g2⟩
          exact ⟨_, rfl, g2, rfl⟩
      · refine need_yes 2 true rfl (fun a w' hin => ins_on hin 2 (by kernel_rfl)) (fun a w' hg hin => ?_)
        have e31 : a.eval (.tmp 31) = .bool true := ins_on hin 7 (by kernel_rfl)
        refine upon_val ?_ rfl
        clear hin hg
        have ek : ∀ x, a.eval (.const x) = x := fun _ => rfl
        have ef : ∀ f, a.eval (.func f) = .func (.func f) #[] #[] := fun _ => rfl
        generalize a.eval = ev at *
        go_simp
        all_goals first | done | omega | (intro _; omega) | go_arith
      · refine need_plain rfl (fun a w' hg hin => ?_)
        have ec : a.eval (.tmp 26) = .bool true := ins_on hin 2 (by kernel_rfl)
        have e : a.eval (.tmp 32) = .bool false := ins_on hin 8 (by kernel_rfl)
        exact upon_pick rfl ec e
    · intro vs w' hg ht
      obtain ⟨q24, q25, q26, q27, q28, q29, q30, q31, q32, q33, -⟩ := ht
      have r24 : vs 0 = .agg #[.slice ab d.blocks.length cb, .slice al d.late.length cl] := q24
      have r25 : vs 1 = .bool true := q25
      have r26 : vs 2 = .bool true := q26
      have r27 : vs 3 = .agg #[.slice ab d.blocks.length cb, .slice al d.late.length cl] := q27
      have r29 : vs 5 = .agg #[.slice ab d.blocks.length cb, .slice al d.late.length cl] := q29
      have r31 : vs 7 = .bool true := q31
      have r32 : vs 8 = .bool false := q32
      have r33 : vs 9 = .bool false := q33
      clear q24 q25 q26 q27 q29 q31 q32 q33
      simp only [putAll, Act.put, List.setIfInBounds_toArray, List.set_cons_zero, List.set_cons_succ, r24, r25, r26, r27, r29, r31, r32, r33]
      clear r24 r25 r26 r27 r29 r31 r32 r33
      clear q28 q30
      generalize vs 4 = u28
      generalize vs 6 = u30
      go_wp2_with fail
      go_meet
      exact ⟨rfl, gW.trans hg, (hg.block _ (heap_lt hE0)).trans hE0⟩
end Go.Proofs.Ytppgbgfahifanaa
