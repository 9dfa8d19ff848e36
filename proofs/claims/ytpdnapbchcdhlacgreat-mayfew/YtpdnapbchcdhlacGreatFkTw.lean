import Derived.Test.YtpdnapbchcdhlacGreatScr
import Derived.Test.YtpdnapbchcdhlacGreatPTell
set_option maxHeartbeats 8000000
namespace Go.Proofs.YtpdnapbchcdhlacGreat
set_option maxRecDepth 100000
open Go.RowKit Go.Maps
open Plain Reg
theorem Zl8 (n : Nat) (d : Dk) (v : Value) (w : World) (hd : Q8 d v w) (hF : d.Fine n) (hn : n ≤ 900) :
  Calls Tryz.prog 90 #[v] w fun r w' => ∃ v' css, r = .returned v' ∧ Yv Vi (fun _ => False) w.heap.size v' (Yp d 6) css w' ∧ Zl w w' := by
 obtain ⟨i0, hif, hz0, hz1, hz2⟩ := info_parts Zp4;obtain ⟨vb, vl, rfl, hb, hl⟩ := hd;obtain ⟨ab, cb, rfl⟩ := hb.form;obtain ⟨al, cl, rfl⟩ := hl.form;have g0 := Zb w (.cells #[.slice ab d.blocks.length cb, .slice al d.late.length cl] 26);have hd0 := Zk w #[.slice ab d.blocks.length cb, .slice al d.late.length cl] 26;have hs0 : (w.alloc (.cells #[.slice ab d.blocks.length cb, .slice al d.late.length cl] 26)).heap.size = w.heap.size + 1 := World.size_alloc _ _;have HF : Hid (d.Fine 900) := hF.mono hn;clear hF;go_enter Tryz.func90, Tryz.ntmps90;go_wp2_with fail;generalize World.alloc w _ = W at *;refine (Zmc W).mono ?_;rw [hs0];rintro r w1 ⟨rfl, hg1, hS1, g1⟩;have gw1 := g0.trans g1;have hd1 := (g1.block _ (Za hd0)).trans hd0;clear g0 g1 hd0 hs0;have hK := Zm4;go_wp2_with fail;go_loopw [3, 9] (fun o i wr => ∃ (k : Nat) (css : List (List Value)), k ≤ 6 ∧ i = .int .i64 (k : Int) ∧ Yv Vi (fun _ => False) (w.heap.size + 3) o (Yp d k) css wr ∧ Zl w wr ∧ wr.heap[w.heap.size]? = some (.cells #[.slice ab d.blocks.length cb, .slice al d.late.length cl] 26 (0, 0)) ∧ wr.heap[w.heap.size + 1 + 1]? = some (.cells #[.map (some (w.heap.size + 1))] 176 (0, 0)) ∧ K5 wr (w.heap.size + 1) k (Ko d k)) (fun _ i _ => 6 - (intOf i).toNat)
 case atStart => exact ⟨0, [], by omega, rfl, Yv.nil _ _ _ _, gw1, hd1, hg1, hS1.on (fun _ => rfl) (Nat.le_refl _)⟩
 case round =>
  clear gw1 hd1 hg1 hS1;obtain ⟨k, css, hk, rfl, hR, gw, hd1, hg1, hS1⟩ := hrel;by_cases hlt : k < 6
  ·have HT : Hid (Yp d (k + 1) = if (d.tell (k : Int)).kind ≠ 1 ∧ Vn d k k = true then Yp d k ++ [(k : Int)] else Yp d k) := rfl;have HFR : Hid ((d.tell (k : Int)).kind = 1 → ∀ x, Ko d k x = Ko d (k + 1) x) := fun h => Zs8 d k h
   have HNW : Hid ((d.tell (k : Int)).kind ≠ 1 → ∀ x, (decide (x = (d.tell (k : Int)).ver) || Ko d k x) = Ko d (k + 1) x) := fun h => Zve d k h
   have HAG : Hid (Ko d k (d.tell (k : Int)).ver = Vn d k k) := Zhj d k k;have HVR : Hid _ := Zq8 d (k : Int);have hll := Zax d k;generalize Yp d k = xs at *;obtain ⟨a0, c0, rfl⟩ := hR.form;obtain ⟨y0, y1⟩ := X1 hd1 rfl rfl;go_wp2_with fail;refine (Zvx d (k : Int) _ wr HF.out ⟨_, _, rfl, hb.grow gw, hl.grow gw⟩).mono ?_;rintro r w1 ⟨dv, rfl, ho, g1⟩;obtain ⟨a9, c9, rfl⟩ := Z8 ho;generalize hTL : d.tell (k : Int) = tl at *;clear hTL;generalize Vn d k k = AG at *;have g2 := Zb w1 (.cells #[.int .i64 tl.kind, .int .i64 tl.key, .int .i64 tl.ver, .slice a9 tl.data.length c9] 61);have hX2 := Zk w1 #[.int .i64 tl.kind, .int .i64 tl.key, .int .i64 tl.ver, .slice a9 tl.data.length c9] 61;have hR2 := (hR.grow g1).grow g2;have gg := g1.trans g2;have gw2 := gw.trans gg;have hd2 := (gg.block _ (Za hd1)).trans hd1;have hg2 := (gg.block _ (Za hg1)).trans hg1;have hS2 := hS1.grow gg;clear y0 y1 hR gw hd1 hg1 hS1 g1 g2 gg ho;have x0 := Zc hX2 0 _ rfl;have x2 := Zc hX2 2 _ rfl;clear hX2;by_cases h1 : tl.kind = 1
   ·have d1 : (tl.kind != 1) = false := by simp [h1]
    have HT2 : Hid (Yp d (k + 1) = xs) := by show _ = _; rw [HT.out, if_neg (fun h => h.1 h1)]
    have hS4 := hS2.on (HFR.out h1) (Nat.le_succ k);have hR4 := hR2;have gw4 := gw2;have hd4 := hd2;have hg4 := hg2;clear HT HFR HNW HAG HVR h1 hS2 hR2 gw2 hd2 hg2;go_wp2_with fail;go_roundw
    case rel => exact ⟨k + 1, css, by omega, by go_num, by rw [HT2.out]; exact hR4, gw4, hd4, hg4, hS4⟩
    case measure => simp [intOf]; omega
   ·have d1 : (tl.kind != 1) = true := by simp [h1]
    go_wp2_with fail;obtain ⟨W2, hW2⟩ : ∃ W2, W2 = w1.alloc (.cells #[.int .i64 tl.kind, .int .i64 tl.key, .int .i64 tl.ver, .slice a9 tl.data.length c9] 61) := ⟨_, rfl⟩;rw [← hW2] at hR2 gw2 hd2 hg2 hS2 x0 x2 ⊢;clear hW2;refine (Zsd tl.ver _ (w.heap.size + 1) k (Ko d k) W2 hg2 hS2 (Zq2 HVR.out.1 HVR.out.2) (by omega)).mono ?_;rw [HAG.out];rintro r w3 ⟨rfl, hS3, hb3⟩;have hS4 := hS3.on (HNW.out h1) (Nat.le_refl _);have hR4 := hR2.other hb3 (by omega) (fun h => h);have gw4 := hb3.grow gw2 (by omega);have hd4 := (hb3.block _ (Za hd2) (by omega)).trans hd2;have hg4 := (hb3.block _ (Za hg2) (by omega)).trans hg2;clear HFR HNW HAG HVR hS2 hS3 hR2 gw2 hd2 hg2 hb3 x0 x2;cases AG with
    | false =>
     have HT2 : Hid (Yp d (k + 1) = xs) := by show _ = _; rw [HT.out, if_neg (fun h => by cases h.2)]
     clear HT h1;go_wp2_with fail;go_roundw
     case rel => exact ⟨k + 1, css, by omega, by go_num, by rw [HT2.out]; exact hR4, gw4, hd4, hg4, hS4⟩
     case measure => simp [intOf]; omega
    | true =>
     have HT2 : Hid (Yp d (k + 1) = xs ++ [(k : Int)]) := by show _ = _; rw [HT.out, if_pos ⟨h1, rfl⟩]
     have HSZ : Hid (w.heap.size + 3 ≤ w3.heap.size) := Za hg4;have hnew : ∀ (t : Nat) u, ([.int .i64 (k : Int)] : List Value)[t]? = some u → (w3.alloc (.cells #[.int .i64 (k : Int)] 3)).cell? ((⟨w3.heap.size, 0, none⟩ : Addr).add t) = some u := by
      intro t u ht
      match t, ht with
      | 0, ht => simp at ht; subst ht; simp [Addr.add]
      | t + 1, ht => simp at ht
     clear HT h1;go_wp2_with (at_builtin; refine wpList_append_own _ rfl (.tmp 27) (.tmp 29) 31 rfl (w.heap.size + 3) 3 i0 (.int .i64 0) 1 8 Tryz.underlying31 hif hz0 hz1 hz2 rfl (by decide) (.slice a0 xs.length c0) _ _ rfl (hR4.row.alloc _) ⟨w3.heap.size, 0, none⟩ 1 1 [.int .i64 (k : Int)] rfl rfl hnew (by intro u hu; simp at hu; subst hu; rfl) (by unfold maxLen; omega) (by omega) (by have := HSZ.out; simp; omega) ?_; intro v5 w5 hown5 hgrow5 _; have hR6 := hR4.step (x := (k : Int)) (by decide) (fun b h => h.elim) rfl hgrow5 hown5; have g6 : Zl w w5 := Yj (gw4.trans (Zb _ _)) hgrow5 (fun k hk => by have := (hR4.row.lt k hk).1; omega); have hd6 := (Qr hR4.row hgrow5 (Jq hR4.row (by omega)) (Za hd4)).trans hd4; have hg6 := (Qr hR4.row hgrow5 (Jq hR4.row (by omega)) (Za hg4)).trans hg4; have hS6 := hS4.same (Qr hR4.row hgrow5 (Jq hR4.row (by omega)) hS4.lt); have hsl := Z8 hown5; obtain ⟨a4, c4, hv4⟩ := hsl; subst hv4; clear hgrow5 hown5 hR4 hnew gw4 hd4 hg4 hS4);go_roundw
     case rel => exact ⟨k + 1, _, by omega, by go_num, by rw [HT2.out]; exact hR6, g6, hd6, hg6, hS6⟩
     case measure => simp [intOf]; omega
  ·have hRE : ∃ css, Yv Vi (fun _ => False) w.heap.size _ (Yp d 6) css wr := ⟨css, by
    have e : k = 6 := by omega
    subst e;exact ⟨hR.len, fun i hi => (hR.each i hi).imp fun _ x => ⟨x.1, x.2⟩, Yd hR.row (by omega)⟩⟩
   obtain ⟨css2, hE⟩ := hRE;clear hR hS1 hg1;obtain ⟨a4, c4, rfl⟩ := hE.form;go_wp2_with fail;go_ret;exact ⟨_, _, rfl, hE, gw⟩
end Go.Proofs.YtpdnapbchcdhlacGreat
namespace Go.Proofs.YtpdnapbchcdhlacGreat
set_option maxRecDepth 100000
open Plain
variable {K d e : Dk} {n : Nat}
def Xp (d : Dk) : Nat → Dk
 | 0 => d
 | k + 1 => (Xp d k).mendD (k : Int)
def Q4 (d : Dk) (l : List Int) : Nat → Dk
 | 0 => d
 | j + 1 => (Q4 d l j).pairD (l.getD j 0) Rec.free
theorem Jg (h : d.Fine n) : ∀ k, (Xp d k).Fine (n + 2 * k)
 | 0 => h
 | k + 1 => by
  have := (Jg h k).mend (k : Int);exact this.mono (by omega)
theorem Kh (h : d.Fine n) (l : List Int) : ∀ j, (Q4 d l j).Fine (n + 2 * j)
 | 0 => h
 | j + 1 => by
  have := (Kh h l j).pair (l.getD j 0) Rec.free;exact this.mono (by omega)
theorem Zfe (h : d.Fine n) {p : Nat} (hp : p < 6) {r : Rec} (hw : Z3 r = 0) {a : Nat} (_ha : a < 12) : Yf (d.pairD (p : Int) r) (a : Int) = if a / 2 = p then blk r (a : Int) else Yf d (a : Int) := by
 have h12 := h.len;have hd : d.pairD (p : Int) r = d.pairW (p : Int) r := by
  unfold Dk.pairD;rw [Zct (by omega) (by omega), if_pos hw]
 rw [hd];obtain ⟨g0, g1⟩ := Zg7 (d := d) (p := (p : Int)) (r := r) (by omega) (by omega);have e : d.pairW (p : Int) r = (d.put (2 * (p : Int)) (blk r (2 * (p : Int)))).put (2 * (p : Int) + 1) (blk r (2 * (p : Int) + 1)) := by simp [Dk.pairW, Dk.put]
 by_cases hc : a / 2 = p
 ·rw [if_pos hc];unfold Yf;by_cases he : a = 2 * p
  ·have ea : (a : Int) = 2 * (p : Int) := by omega
   rw [ea, g0]; rfl
  ·have ea : (a : Int) = 2 * (p : Int) + 1 := by omega
   rw [ea, g1]; rfl
 ·rw [if_neg hc];unfold Yf;rw [e, Dk.put_other _ _ _ _ (by omega), Dk.put_other _ _ _ _ (by omega)]
theorem Zlr {m : Nat} (h : d.Fine n) (h' : e.Fine m) {q : Nat} (hq : q < 6) (hs : ∀ a : Nat, a < 12 → a / 2 = q → Yf e (a : Int) = Yf d (a : Int)) : e.how (q : Int) = d.how (q : Int) ∧ e.tell (q : Int) = d.tell (q : Int) := by
 have e0 : ((2 * q : Nat) : Int) = 2 * (q : Int) := by omega
 have e1 : ((2 * q + 1 : Nat) : Int) = 2 * (q : Int) + 1 := by omega
 have s0 := hs (2 * q) (by omega) (by omega);have s1 := hs (2 * q + 1) (by omega) (by omega);rw [e0] at s0;rw [e1] at s1;exact Zbo (by rw [h.len, h'.len]) s0 s1
theorem Ze1 {a : Int} (h : Xu d a = 0) : Yf d a = blk (Z0 d a) a := by
 have hr : Z0 d a = Yx (Yf d a) a := by unfold Z0; rw [if_pos h]
 rw [hr, (Zf8 _ _ h).2]
theorem Zpu {p : Int} (hn : d.noPair p = false) (hl : d.how p < 2) : Yf d (2 * p) = blk (d.tell p) (2 * p) ∧ Yf d (2 * p + 1) = blk (d.tell p) (2 * p + 1) := by
 have e0 := Zay d (2 * p);have e1 := Zay d (2 * p + 1);have b0 := Vm d (2 * p);have b1 := Vm d (2 * p + 1);have bad : ∀ a, Yy d a = 0 → Xu d a = 0 := fun a h => by
  unfold Yy at h;by_cases hz : Xu d a = 0
  ·exact hz
  ·rw [if_neg hz] at h; omega
 have told : ∀ a, (Z0 d a).kind ≠ 1 → Xu d a = 0 := fun a h => by
  by_cases hz : Xu d a = 0
  ·exact hz
  ·exact absurd (by unfold Z0; rw [if_neg hz]; rfl) h
 unfold Dk.how at hl;unfold Dk.tell;rw [hn] at hl ⊢;simp only [Bool.false_eq_true, if_false] at hl ⊢;by_cases hs : Yl d (2 * p) + Yl d (2 * p + 1) = 2
 ·rw [if_pos hs] at hl;have k0 : (Z0 d (2 * p)).kind ≠ 1 := fun h => by have := Xw h; omega
  have k1 : (Z0 d (2 * p + 1)).kind ≠ 1 := fun h => by have := Xw h; omega
  have hz : ¬ (Yl d (2 * p) + Yl d (2 * p + 1) = 0) := by omega
  rw [if_neg hz];by_cases hsm : Xr (Z0 d (2 * p)) (Z0 d (2 * p + 1)) = true
  ·have hss := (J0 _ _).1 hsm;unfold Km;rw [if_neg k0];refine ⟨Ze1 (told _ k0), ?_⟩;rw [hss]; exact Ze1 (told _ k1)
  ·rw [if_neg hsm] at hl; omega
 ·rw [if_neg hs] at hl;by_cases hs1 : Yl d (2 * p) + Yl d (2 * p + 1) = 1
  ·rw [if_pos hs1] at hl; omega
  ·rw [if_neg hs1] at hl;have hz : Yl d (2 * p) + Yl d (2 * p + 1) = 0 := by omega
   rw [if_pos hz];by_cases hb0 : Yy d (2 * p) + Yy d (2 * p + 1) = 0
   ·have key : ∀ a, Yl d a = 0 → Yy d a = 0 → Yf d a = blk Rec.free a := fun a h1 h2 => by
     have hf : Z0 d a = Rec.free := by
      refine Zde (Zca d a) ?_;by_cases hk : (Z0 d a).kind = 1
      ·exact hk
      ·rw [V3 hk] at h1; omega
     rw [← hf]; exact Ze1 (bad _ h2)
    exact ⟨key _ (by omega) (by omega), key _ (by omega) (by omega)⟩
   ·rw [if_neg hb0] at hl; split at hl <;> omega
theorem Zmp (h : d.Fine n) {p : Nat} (hp : p < 6) {a : Nat} (ha : a < 12) : Yf (d.mendD (p : Int)) (a : Int) = if a / 2 = p then blk (d.tell (p : Int)) (a : Int) else Yf d (a : Int) := by
 unfold Dk.mendD;by_cases h2 : 2 ≤ d.how (p : Int)
 ·rw [if_pos h2];exact Zfe h hp (Xh d _) ha
 ·rw [if_neg h2];obtain ⟨s0, s1⟩ := Zpu (Y7 h.len hp) (show d.how (p : Int) < 2 by omega);by_cases hc : a / 2 = p
  ·rw [if_pos hc];by_cases he : a = 2 * p
   ·have ea : (a : Int) = 2 * (p : Int) := by omega
    rw [ea, s0]
   ·have ea : (a : Int) = 2 * (p : Int) + 1 := by omega
    rw [ea, s1]
  ·rw [if_neg hc]
structure Zxc (K : Dk) (k : Nat) (e : Dk) : Prop where
 fine : e.Fine 12
 how : ∀ q : Nat, q < 6 → k ≤ q → e.how (q : Int) = K.how (q : Int)
 tell : ∀ q : Nat, q < 6 → e.tell (q : Int) = K.tell (q : Int)
 side : ∀ a : Nat, a < 12 → Yf e (a : Int) = if a / 2 < k then blk (K.tell ((a / 2 : Nat) : Int)) (a : Int) else Yf K (a : Int)
theorem Zh8 (h : K.Fine 0) : ∀ k, k ≤ 6 → Zxc K k (Xp K k)
 | 0, _ => ⟨h.mono (by omega), fun _ _ _ => rfl, fun _ _ => rfl, fun a _ => by rw [if_neg (by omega)]; rfl⟩
 | k + 1, hk => by
  have ih := Zh8 h k (by omega);have hf := Jg h (k + 1);have hs : ∀ a : Nat, a < 12 → Yf (Xp K (k + 1)) (a : Int) = if a / 2 = k then blk ((Xp K k).tell (k : Int)) (a : Int) else Yf (Xp K k) (a : Int) := fun a ha => Zmp ih.fine (by omega) ha
  have hl : ∀ q : Nat, q < 6 → q ≠ k → (Xp K (k + 1)).how (q : Int) = (Xp K k).how (q : Int) ∧ (Xp K (k + 1)).tell (q : Int) = (Xp K k).tell (q : Int) := fun q hq hne => Zlr ih.fine hf hq fun a ha he => by rw [hs a ha, if_neg (by omega)]
  refine ⟨hf.mono (by omega), fun q hq hle => ?_, fun q hq => ?_, fun a ha => ?_⟩
  ·rw [(hl q hq (by omega)).1]; exact ih.how q hq (by omega)
  ·by_cases e : q = k
   ·subst e;have := (Zmo (Xp K q) (q : Int) (by omega) (by rw [ih.fine.len]; omega) (by rw [ih.fine.len]; omega)).2.1;exact this.trans (ih.tell q hq)
   ·rw [(hl q hq e).2]; exact ih.tell q hq
  ·rw [hs a ha];by_cases e : a / 2 = k
   ·rw [if_pos e, if_pos (by omega), ih.tell k (by omega), e]
   ·rw [if_neg e, ih.side a ha];by_cases hlt : a / 2 < k
    ·rw [if_pos hlt, if_pos (by omega)]
    ·rw [if_neg hlt, if_neg (by omega)]
theorem Znb (h : K.Fine 0) (k : Nat) (hk : k < 6) (i : Int) : cnt K (k + 1) i = cnt K k i + (if (Xp K k).how (k : Int) = i then 1 else 0) := by
 rw [(Zh8 h k (by omega)).how k hk (Nat.le_refl _)]; rfl
theorem Zc8 (h : ∀ q : Nat, q < 6 → e.tell (q : Int) = d.tell (q : Int)) (p : Nat) (hp : p < 6) : ∀ n, n ≤ 6 → Vn e p n = Vn d p n
 | 0, _ => rfl
 | n + 1, hn => by
  unfold Vn;rw [Zc8 h p hp n (by omega), h n (by omega), h p hp]
theorem Zco (h : ∀ q : Nat, q < 6 → e.tell (q : Int) = d.tell (q : Int)) : ∀ n, n ≤ 6 → Yp e n = Yp d n
 | 0, _ => rfl
 | n + 1, hn => by
  unfold Yp;rw [Zco h n (by omega), Zc8 h n (by omega) n (by omega), h n (by omega)]
theorem Zhl (h : d.Fine n) (l : List Int) (hl : ∀ x ∈ l, 0 ≤ x ∧ x < 6) : ∀ j, j ≤ l.length → ∀ a : Nat, a < 12 → Yf (Q4 d l j) (a : Int) = if (l.take j).contains ((a / 2 : Nat) : Int) = true then blk Rec.free (a : Int) else Yf d (a : Int)
 | 0, _, a, _ => by simp [Q4]
 | j + 1, hj, a, ha => by
  have hm := hl l[j] (List.getElem_mem _);have hg : l.getD j 0 = ((l[j].toNat : Nat) : Int) := by rw [Q1 _ _ _ (by omega)]; omega
  show Yf ((Q4 d l j).pairD (l.getD j 0) Rec.free) (a : Int) = _;rw [hg, Zfe (Kh h l j) (by omega) Qn ha, Zhl h l hl j (by omega) a ha, Zgq l j (by omega)];by_cases e : a / 2 = l[j].toNat
  ·have e2 : (((a / 2 : Nat) : Int) == l[j]) = true := by simp; omega
   rw [if_pos e, e2, Bool.or_true, if_pos rfl]
  ·have e2 : (((a / 2 : Nat) : Int) == l[j]) = false := by simp; omega
   rw [if_neg e, e2, Bool.or_false]
theorem Zvh (h : d.Fine 0) (h' : e.Fine 0) (hs : ∀ a : Nat, a < 12 → Yf d (a : Int) = Yf e (a : Int)) : d = e := by
 have l1 := Vt h;have l2 := Vt h';have n1 := h.len;have n2 := h'.len;have hb : d.blocks = e.blocks := by
  apply List.ext_getElem (by omega);intro a ha hb;have s := hs a (by omega);rw [Ky h (by omega), Ky h' (by omega), Q1 _ _ _ ha, Q1 _ _ _ hb] at s;exact s
 obtain ⟨b1, w1⟩ := d;obtain ⟨b2, w2⟩ := e;simp only at l1 l2 hb;rw [l1, l2, hb]
theorem Zq7 (d : Dk) : ∀ x ∈ Yp d 6, 0 ≤ x ∧ x < 6 := by
 have key : ∀ n, ∀ x ∈ Yp d n, 0 ≤ x ∧ x < (n : Int) := by
  intro n
  induction n with
  | zero => intro x hx; cases hx
  | succ n ih =>
   intro x hx;unfold Yp at hx;split at hx
   ·rcases List.mem_append.1 hx with h1 | h1
    ·have := ih x h1; omega
    ·rw [List.mem_singleton.1 h1]; omega
   ·have := ih x hx; omega
 exact key 6
theorem Zqh (h : d.Fine n) : (Q4 (Xp (d.keep 0) 6) (Yp (Xp (d.keep 0) 6) 6) (Yp (Xp (d.keep 0) 6) 6).length).flush = d.clean ∧ Yp (Xp (d.keep 0) 6) 6 = Yp (d.keep 0) 6 := by
 have hK := h.kept 0;have hM := Zh8 hK 6 (Nat.le_refl _);have ht := Zco hM.tell 6 (Nat.le_refl _);refine ⟨?_, ht⟩;rw [ht];have hC := Ztf h;have hF := Kh hM.fine (Yp (d.keep 0) 6) (Yp (d.keep 0) 6).length;refine Zvh hF.flush hC.fine fun a ha => ?_;have hs : Yf (Q4 (Xp (d.keep 0) 6) (Yp (d.keep 0) 6) (Yp (d.keep 0) 6).length).flush (a : Int) = Yf (Q4 (Xp (d.keep 0) 6) (Yp (d.keep 0) 6) (Yp (d.keep 0) 6).length) (a : Int) := by
  unfold Yf;rw [Dk.flush_get _ fun x hx => (hF.place x hx).1]
 rw [hs, Zhl hM.fine _ (Zq7 _) _ (Nat.le_refl _) a ha, List.take_length, hM.side a ha, hC.side a ha, if_pos (show a / 2 < 6 by omega), if_pos (show a / 2 < 6 by omega)];unfold Zed;by_cases hc : (Yp (d.keep 0) 6).contains ((a / 2 : Nat) : Int) = true
 ·rw [if_pos hc, if_pos hc]
 ·rw [if_neg hc, if_neg hc]
end Go.Proofs.YtpdnapbchcdhlacGreat
