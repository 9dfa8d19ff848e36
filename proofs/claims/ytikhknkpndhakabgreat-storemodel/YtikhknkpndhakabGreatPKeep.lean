import Derived.Test.YtikhknkpndhakabGreatJPd
set_option maxHeartbeats 8000000
namespace Go.Proofs.YtikhknkpndhakabGreat
set_option maxRecDepth 100000
open Go.RowKit
open Plain Reg
theorem Zya (y : Int) : bits .and .i64 y 1 = y % 2 := by
 have e1 : (BitVec.ofInt 64 y).toNat = (y % 18446744073709551616).toNat := by simp [BitVec.toNat_ofInt]
 have e2 : (BitVec.ofInt 64 1).toNat = 1 := by decide
 show IntKind.i64.wrap ((BitVec.ofInt 64 y &&& BitVec.ofInt 64 1).toNat : Int) = _;rw [BitVec.toNat_and, e1, e2, Nat.and_two_pow_sub_one_eq_mod _ 1, IntKind.wrap_i64];omega
theorem Zvc (b : Int) (k : Nat) (hk : k < 60) : Qq b k = (b / 2 ^ k % 2 == 1) := by
 have hr0 : 0 ≤ b % 18446744073709551616 := by omega
 obtain ⟨r, hr⟩ := Int.eq_ofNat_of_zero_le hr0;obtain ⟨t, ht⟩ : ∃ t, t = b / 18446744073709551616 := ⟨_, rfl⟩;have hb : b = (r : Int) + 2 ^ k * (2 ^ (63 - k) * 2 * t) := by
  have h64 : (2 : Int) ^ k * (2 ^ (63 - k) * 2) = 18446744073709551616 := by
   rw [← Int.mul_assoc, ← Int.pow_add, show k + (63 - k) = 63 from by omega]; decide
  rw [← Int.mul_assoc, h64]; omega
 have hpos : (2 : Int) ^ k ≠ 0 := by
  have : (0 : Int) < 2 ^ k := Int.pow_pos (by decide);omega
 have hq : b / 2 ^ k = (r : Int) / 2 ^ k + 2 ^ (63 - k) * 2 * t := by
  rw [hb, Int.add_mul_ediv_left _ _ hpos]
 have hd : (r : Int) / 2 ^ k = ((r / 2 ^ k : Nat) : Int) := by
  rw [Int.natCast_ediv, Int.natCast_pow]; rfl
 unfold Qq;rw [hr, Int.toNat_natCast, decide_eq_true hk, Bool.true_and, hq, hd];generalize r / 2 ^ k = s;have e : (2 : Int) ^ (63 - k) * 2 * t = 2 * (2 ^ (63 - k) * t) := by
  rw [Int.mul_comm (2 ^ (63 - k)) 2, Int.mul_assoc]
 rw [e];generalize (2 : Int) ^ (63 - k) * t = z;have e2 : ((s : Int) + 2 * z) % 2 = (s : Int) % 2 := by omega
 rw [e2];rcases Nat.mod_two_eq_zero_or_one s with h | h
 ·have h' : (s : Int) % 2 = 0 := by omega
  rw [h, h']; rfl
 ·have h' : (s : Int) % 2 = 1 := by omega
  rw [h, h']; rfl
theorem Zqv (d : Dk) (bt : Int) (vb vl : Value) (w : World) (hb : X1 w vb d.blocks) (hl : Vv w vl d.late) (h0 : 0 < d.blocks.length) (hlen : d.blocks.length ≤ 256) (hm : d.late.length ≤ 60) (hb16 : ∀ x ∈ d.blocks, x.length ≤ 1000) (hl16 : ∀ x ∈ d.late, x.2.length ≤ 1000) (hp : ∀ x ∈ d.late, 0 ≤ x.1 ∧ x.1 < (d.blocks.length : Int)) :
  Calls Tryz.prog 43 #[.agg #[vb, vl], .int .i64 bt] w fun e w' => ∃ v, e = .returned v ∧ Q6 w.heap.size (d.keep bt) v w' ∧ Zo w w' := by
 obtain ⟨ab, cb, rfl⟩ := hb.form;have hcap : ∃ al cl, vl = .slice al d.late.length cl ∧ d.late.length ≤ cl := by
  rcases hl with ⟨ao, cap, rfl, e, _⟩ | ⟨b, off, cap, rfl, h1, _⟩
  ·exact ⟨ao, cap, by rw [e]; rfl, by rw [e]; exact Nat.zero_le _⟩
  ·exact ⟨_, cap, rfl, h1⟩
 obtain ⟨al, cl, rfl, hcl⟩ := hcap;have gW := Zr w (.cells #[.slice ab d.blocks.length cb, .slice al d.late.length cl] 30) (.cells #[.slice none 0 0, .slice none 0 0] 30);have hx := hx1 w #[.slice ab d.blocks.length cb, .slice al d.late.length cl] #[.slice none 0 0, .slice none 0 0];have hy := hy1 w #[.slice ab d.blocks.length cb, .slice al d.late.length cl] #[.slice none 0 0, .slice none 0 0];go_enter Tryz.func43, Tryz.ntmps43;go_wp2_with fail;refine (Km d.blocks _ _ (hb.grow gW) hlen hb16).mono ?_;rintro e w1 ⟨v1, us, rfl, hU, -, g1⟩;obtain ⟨q, cap, rfl⟩ := Zh6 hU h0;have g2 := Zb w1 (.cells #[.slice (some ⟨q, 0, none⟩) d.blocks.length cap, .slice none 0 0] 30);have hxw := ((g1.trans g2).block _ (Za hx)).trans hx;have hyw := ((g1.trans g2).block _ (Za hy)).trans hy;have hstart : Jt d w #[.slice ab d.blocks.length cb, .slice al d.late.length cl] (.slice (some ⟨q, 0, none⟩) d.blocks.length cap) w1.heap.size (Qq bt) 0 (w1.alloc (.cells #[.slice (some ⟨q, 0, none⟩) d.blocks.length cap, .slice none 0 0] 30)) :=
  ⟨gW.trans (g1.trans g2), hxw, hyw, Zk _ _ _, us, (hU.grow g2).mono (by simp)⟩
 have x1 := Zd hxw 1 _ rfl;clear hU hxw hyw hx hy gW g1 g2 hb;have hmi : (d.late.length : Int) ≤ 60 := by omega
 go_wp2_with fail;clear x1 hmi;generalize w1.heap.size = g at *;generalize World.alloc w1 _ = W at *;have a1 := Zya;go_loopw [20] (fun i wr => ∃ k : Nat, k ≤ d.late.length ∧ i = .int .i64 k ∧ Jt d w #[.slice ab d.blocks.length cb, .slice al d.late.length cl] (.slice (some ⟨q, 0, none⟩) d.blocks.length cap) g (Qq bt) k wr) (fun i _ => d.late.length - (intOf i).toNat)
 case atStart => exact ⟨0, Nat.zero_le _, rfl, hstart⟩
 case round =>
  clear hstart;obtain ⟨k, hk, rfl, hL⟩ := hrel;by_cases hlt : k < d.late.length
  ·obtain ⟨b, off, hvl, hc0, u, hc1, hu⟩ := (hl.grow hL.1).at k hlt;cases hvl;have hpk := hp d.late[k] (List.getElem_mem _);have hx16 := hl16 d.late[k] (List.getElem_mem _);obtain ⟨m, hm0⟩ := Int.eq_ofNat_of_zero_le hpk.1;have hmn : m < d.blocks.length := by have := hpk.2; omega
   rw [hm0] at hc0;obtain ⟨au, cu, rfl, -, -⟩ := Ym hu;have hll := hL.grow (Zb wr (.cells #[.int .i64 (m : Int), .slice au (d.late[k].2).length cu] 89));have hSB := Zvc bt k (by omega);have hk64 : (k : Int) ≤ 64 := by omega
   by_cases hon : Qq bt k = true
   ·obtain ⟨us1, hU1⟩ := hll.2.2.2.2;have hkl : (d.keepTo (Qq bt) k).length = d.blocks.length := d.keepTo_length _ _;have hrow1 := hU1.row;rw [hkl] at hrow1;have hu1 := Z1 hu (Zb wr (.cells #[.int .i64 (m : Int), .slice au (d.late[k].2).length cu] 89));have hfin := fun (l : List UInt8) (e : d.late[k].2 = l) v' w' => Jt.land (v' := v') (w' := w') hll hon hlt hm0 e hU1
    have y0 := Zd hll.2.2.2.1 0 _ rfl;have y1 := Zd hll.2.2.2.1 1 _ rfl;replace hfin := hfin _ rfl;rw [hon] at hSB;have hbit : (bt / 2 ^ k % 2 == 1) = true := hSB.symm;clear hm0 hU1 hL hu hkl hpk hll hSB hon;generalize d.late[k].2 = data at *;go_wp2_with fail;refine (Zlb q (w.heap.size + 1 + 1) d.blocks.length cap m us1 _ _ _ _ data _ _ rfl hmn hrow1 hu1 hx16).mono ?_;rintro e w2 ⟨rfl, v', hbut, hQ⟩;have hend := hfin v' w2 hbut hQ;clear hfin hbut hQ hrow1 hu1 y0 y1;go_wp2_with fail;go_roundw
    case rel => exact ⟨k + 1, by omega, by simp, hend⟩
    case measure => simp [intOf]; omega
   ·have hoff : Qq bt k = false := by simpa using hon
    have hend := hll.skip hoff;rw [hoff] at hSB;have hbit : (bt / 2 ^ k % 2 == 1) = false := hSB.symm;clear hm0 hL hu hpk hll hSB hon hoff;generalize d.late[k].2 = data at *;go_wp2_with fail;go_roundw
    case rel => exact ⟨k + 1, by omega, by simp, hend⟩
    case measure => simp [intOf]; omega
  ·have hk' : k = d.late.length := by omega
   subst hk';obtain ⟨gL, -, hLr, hLg, us1, hU1⟩ := hL;obtain ⟨y0, y1⟩ := X3 hLg rfl rfl;obtain ⟨z0, z1⟩ := X3 hLr rfl rfl;have f0 := Zn hLr 0;have f1 := Zn hLr 1;have cs := Zx;obtain ⟨hp1, hp2⟩ := Qf hLr (.slice (some ⟨q, 0, none⟩) d.blocks.length cap) (.slice none 0 0);have hstep : Yv 30 wr _ := .inr ⟨_, _, _, hp2, hLr, hp1, rfl⟩;have gE := hp2.grow gL (by omega);have hE := (hU1.box hstep).mono (B' := w.heap.size) (by omega);clear hp1 hp2 hstep hU1 hLg hLr gL hl;go_wp2_with fail;exact bodyPost_ret (v := .agg #[.slice (some ⟨q, 0, none⟩) d.blocks.length cap, .slice none 0 0]) (by simp [results, Tryz.results43, go_sem, z0, z1, cs]) rfl ⟨_, rfl, ⟨_, _, rfl, ⟨us1, hE⟩, Vf.nil _ _⟩, gE⟩
theorem Vr.snoc {B : Nat} {v v' u : Value} {bs : List (List UInt8)} {us : List Value} {l : List UInt8} {w w' : World} (h : Vr B v bs us w) (hr : w'.ownsRow B 23 1 v' (bs.length + 1) (us ++ [u]))
  (he : ∀ i (hi : i < bs.length), ∃ u, us[i]? = some u ∧ w'.ownsRow B 5 1 u bs[i].length (bs[i].map bv)) (hu : w'.ownsRow B 5 1 u l.length (l.map bv)) : Vr B v' (bs ++ [l]) (us ++ [u]) w' := by
 refine ⟨by simp [h.len], by simpa using hr, fun i hi => ?_⟩;by_cases hi2 : i < bs.length
 ·obtain ⟨y, h1, h2⟩ := he i hi2;refine ⟨y, by rw [List.getElem?_append_left (by have := h.len; omega)]; exact h1, ?_⟩;rw [List.getElem_append_left hi2]; exact h2
 ·have e : i = bs.length := by simp at hi; omega
  subst e;exact ⟨u, by rw [← h.len]; simp, by simpa using hu⟩
theorem Zrl (w : World) (B n b0 : Nat) (d : Value) (us : List Value) (u : Value) (ty : TypeId) (hown : w.ownsRow B 23 1 d n us) (hx : w.heap[b0]? = some (.cells #[u] 23 (0, 0))) (hu : u.oneCell' = true) (hm : n < 1000) (hB : B ≤ w.heap.size) :
  ∃ v' w', (Builtin.append_ #[27, 27] ty #[d, .slice (some ⟨b0, 0, none⟩) 1 1]).run Tryz.prog w = .ok v' w' ∧ w'.ownsRow B 23 1 v' (n + 1) (us ++ [u]) ∧ w.grownBy w' d.ownBlock := by
 obtain ⟨i0, hif, hz0, hz1, hz2⟩ := info_parts Jl;obtain ⟨v', w', h1, h2, h3, _⟩ := run_append_own (P := Tryz.prog) w B 27 ty 23 i0 (.slice none 0 0) 1 24 Tryz.underlying27 hif hz0 hz1 hz2 rfl (by decide) d n us hown ⟨b0, 0, none⟩ 1 1 [u] rfl
  (fun j z hj => by
   match j, hj with
   | 0, hj => simp at hj; subst hj; simp [Addr.add, World.cell?, hx]
   | j + 1, hj => simp at hj) (by intro z hz; simp at hz; subst hz; exact hu) (by unfold maxLen; omega) (by omega) hB
 exact ⟨v', w', h1, h2, h3⟩
theorem Zi4 {w w' : World} {base size : Nat} {e : TypeId} {d v : Value} {n : Nat} {xs : List Value} (hs : Zbh d w w') (hd : ∀ q, d.ownBlock = some q → v.ownBlock ≠ some q) (h : w.ownsRow base e size v n xs) : w'.ownsRow base e size v n xs := by
 rcases hs with rfl | hs
 ·exact h
 ·refine ⟨h.1, Xs h.2 (fun x => x) fun ⟨q, cap, cur, h1, h2, h3, r⟩ => ⟨q, cap, cur, h1, h2, ?_, r⟩⟩;rw [hs.block _ (Za h3) (fun e => by subst h1; exact hd q e.symm rfl)];exact h3
def Zjs (B : Nat) (d : Value) (l : List UInt8) (v : Value) (w : World) : Prop := w.ownsRow B 5 1 v l.length (l.map bv) ∧ ∀ q, d.ownBlock = some q → v.ownBlock ≠ some q
theorem Ziy (B : Nat) (d : Value) (l : List UInt8) : Xr (Zjs B d l) := fun _ _ _ hg h => ⟨Yd h.1 hg, h.2⟩
theorem Zos {B : Nat} {d : Value} {l : List UInt8} {v : Value} {w w' : World} (hs : Zbh d w w') (h : Zjs B d l v w) : Zjs B d l v w' := ⟨Zi4 hs h.2 h.1, h.2⟩
theorem Zov {B : Nat} {d : Value} {l : List UInt8} {v : Value} {w w' : World} (hs : Yv 30 w w') (h : Zjs B d l v w) : Zjs B d l v w' := ⟨Qi (by decide) hs h.1, h.2⟩
def Zl5 (B : Nat) (d : Value) (l : List UInt8) (v : Value) (w : World) : Prop := ∃ b0 u, v = .slice (some ⟨b0, 0, none⟩) 1 1 ∧ w.heap[b0]? = some (.cells #[u] 23 (0, 0)) ∧ (∀ q, d.ownBlock = some q → b0 ≠ q) ∧ Zjs B d l u w
theorem Zu5 (B : Nat) (d : Value) (l : List UInt8) : Xr (Zl5 B d l) := by
 rintro v w w' hg ⟨b0, u, h1, h2, h3, h4⟩; exact ⟨b0, u, h1, (hg.block _ (Za h2)).trans h2, h3, Ziy _ _ _ _ _ _ hg h4⟩
theorem Zva {B : Nat} {d : Value} {l : List UInt8} {v : Value} {w w' : World} (hs : Zbh d w w') (h : Zl5 B d l v w) : Zl5 B d l v w' := by
 obtain ⟨b0, u, h1, h2, h3, h4⟩ := h;refine ⟨b0, u, h1, ?_, h3, Zos hs h4⟩;rcases hs with rfl | hs
 ·exact h2
 ·exact (hs.block _ (Za h2) (fun e => h3 b0 e.symm rfl)).trans h2
theorem Zvd {B : Nat} {d : Value} {l : List UInt8} {v : Value} {w w' : World} (hs : Yv 30 w w') (h : Zl5 B d l v w) : Zl5 B d l v w' := by
 obtain ⟨b0, u, h1, h2, h3, h4⟩ := h;refine ⟨b0, u, h1, ?_, h3, Zov hs h4⟩;rcases hs with rfl | ⟨g', c1, c2, hb, h5, h6, h7⟩
 ·exact h2
 ·exact (hb.block _ (Za h2) (by rintro rfl; rw [h5] at h2; cases h2)).trans h2
def Zoh (B n : Nat) (us : List Value) (l : List UInt8) (v : Value) (w : World) : Prop := ∃ u, w.ownsRow B 23 1 v (n + 1) (us ++ [u]) ∧ w.ownsRow B 5 1 u l.length (l.map bv)
theorem Zop (B n : Nat) (us : List Value) (l : List UInt8) : Xr (Zoh B n us l) := by
 rintro v w w' hg ⟨u, h1, h2⟩; exact ⟨u, Yd h1 hg, Yd h2 hg⟩
theorem Zve {B n : Nat} {us : List Value} {l : List UInt8} {v : Value} {w w' : World} (hs : Yv 30 w w') (h : Zoh B n us l v w) : Zoh B n us l v w' := by
 obtain ⟨u, h1, h2⟩ := h; exact ⟨u, Qi (by decide) hs h1, Qi (by decide) hs h2⟩
def Zxp (B g n : Nat) (us : List Value) (l : List UInt8) (v : Value) (w : World) : Prop := w.heap[g]? = some (.cells #[v, .slice none 0 0] 30 (0, 0)) ∧ Zoh B n us l v w
theorem Zu2 (B g n : Nat) (us : List Value) (l : List UInt8) (i : Nat) : Vy (pl1 i (fun _ v w => Zxp B g n us l v w)) := by
 rintro v ds w w' hg ⟨h1, h2⟩;exact ⟨(hg.block _ (Za h1)).trans h1, Zop _ _ _ _ _ _ _ hg h2⟩
def Zhb (w : World) (v : Value) (bs : List (List UInt8)) (us : List Value) (dn : Nat → Bool) (w' : World) : Prop :=
 Zo w w' ∧ w'.heap[w.heap.size]? = some (.cells #[.slice none 0 0, .slice none 0 0] 30 (0, 0)) ∧ w.heap.size + 1 + 1 ≤ w'.heap.size ∧ (dn 8 = false → w'.heap[w.heap.size + 1]? = some (.cells #[v, .slice none 0 0] 30 (0, 0))) ∧
  (dn 6 = false → w'.ownsRow (w.heap.size + 1 + 1) 23 1 v bs.length us) ∧ (∀ i (hi : i < bs.length), ∃ u, us[i]? = some u ∧ w'.ownsRow (w.heap.size + 1 + 1) 5 1 u bs[i].length (bs[i].map bv))
theorem Zhb.grow {w : World} {v : Value} {bs : List (List UInt8)} {us : List Value} {dn : Nat → Bool} {w' w'' : World} (h : Zhb w v bs us dn w') (hg : Zo w' w'') : Zhb w v bs us dn w'' :=
 ⟨h.1.trans hg, (hg.block _ (Za h.2.1)).trans h.2.1, Nat.le_trans h.2.2.1 hg.size, fun h8 => (hg.block _ (Za (h.2.2.2.1 h8))).trans (h.2.2.2.1 h8), fun h6 => Yd (h.2.2.2.2.1 h6) hg, fun i hi => (h.2.2.2.2.2 i hi).imp fun _ hu => ⟨hu.1, Yd hu.2 hg⟩⟩
def Zuj (w : World) (bs : List (List UInt8)) (wr : World) : Prop :=
 Zo w wr ∧ wr.heap[w.heap.size]? = some (.cells #[.slice none 0 0, .slice none 0 0] 30 (0, 0)) ∧ ∃ v us, wr.heap[w.heap.size + 1]? = some (.cells #[v, .slice none 0 0] 30 (0, 0)) ∧ Vr (w.heap.size + 1 + 1) v bs us wr
theorem Zf4 {w : World} {B B' n m size size' : Nat} {e T : TypeId} {v u : Value} {xs ys : List Value} (h : w.ownsRow B e size v n xs) (h' : w.ownsRow B' T size' u m ys) (hT : e ≠ T) : ∀ q, u.ownBlock = some q → v.ownBlock ≠ some q := by
 intro q h1 h2;rcases h.2 with ⟨rfl, _⟩ | ⟨g, cap, cur, rfl, _, hh, _⟩
 ·cases h2
 ·rcases h'.2 with ⟨rfl, _⟩ | ⟨g', cap', cur', rfl, _, hh', _⟩
  ·cases h1
  ·cases h1; cases h2; rw [hh] at hh'; cases hh'; exact hT rfl
theorem Zk3 (w : World) : Calls Tryz.prog 34 #[] w fun e w' => ∃ v, e = .returned v ∧ Q6 w.heap.size Dk.new v w' ∧ Zo w w' := by
 have hstart : Zuj w [] ((w.alloc (.cells #[.slice none 0 0, .slice none 0 0] 30)).alloc (.cells #[.slice none 0 0, .slice none 0 0] 30)) :=
  ⟨Zr _ _ _, hx1 _ _ _, .slice none 0 0, [], hy1 _ _ _, rfl, World.ownsRow_nil _ _ _ _, fun i hi => by simp at hi⟩
 go_enter Tryz.func34, Tryz.ntmps34;go_wp2_with fail;generalize World.alloc (World.alloc w _) _ = W at *;go_loopw [4] (fun i wr => ∃ k : Nat, k ≤ 12 ∧ i = .int .i64 k ∧ Zuj w (Dk.new.blocks.take k) wr) (fun i _ => 12 - (intOf i).toNat)
 case atStart => exact ⟨0, Nat.zero_le _, rfl, hstart⟩
 case round =>
  clear hstart;obtain ⟨k, hk, rfl, gL, hLr, v, us, hLg, hU⟩ := hrel;by_cases hlt : k < 12
  ·have hkb : k < Dk.new.blocks.length := hlt;have HT : Hid (Dk.new.blocks.take (k + 1) = Dk.new.blocks.take k ++ [blk ⟨1, 0, 0, []⟩ (k : Int)]) := by
    show _ = _; rw [List.take_succ_eq_append_getElem hkb, Znj k hkb]
   have hpl : (Dk.new.blocks.take k).length = k := by rw [List.length_take, Zdj]; omega
   have HL16 : Hid ((blk ⟨1, 0, 0, []⟩ (k : Int)).length = 16) := Qh _ _ (by simp);generalize hbe : blk ⟨1, 0, 0, []⟩ (k : Int) = bl at *;have HBE : Hid _ := hbe;clear hbe;generalize Dk.new.blocks.take k = bs at *;have hz : w.heap.size + 1 < wr.heap.size := Za hLg;obtain ⟨av, cv, rfl⟩ := hU.p.form;go_wp2_with fail
   refine Y4 [px (.pointer (some ⟨w.heap.size + 1, 0, none⟩)), px (.slice av bs.length cv), px (.agg #[.int .i64 1, .int .i64 0, .int .i64 0, .slice none 0 0]), px (.int .i64 (k : Int)), pl (Zjs (w.heap.size + 1 + 1) (.slice av bs.length cv) bl), pl (Zl5 (w.heap.size + 1 + 1) (.slice av bs.length cv) bl), pl (Zoh (w.heap.size + 1 + 1) bs.length us bl), px (.pointer (some ⟨w.heap.size + 1, 0, none⟩)), pl1 6 ((fun _ v w' => Zxp (w.heap.size + 1 + 1) (w.heap.size + 1) bs.length us bl v w'))] [none, none, none, none, none, none, some ((Zbh (.slice av bs.length cv))), none, some ((Yv 30))] (Zhb w (.slice av bs.length cv) bs us) (by kernel_rfl) (by kernel_rfl) ⟨se, se, se, se, Yl (Ziy _ _ _), Yl (Zu5 _ _ _), Yl (Zop _ _ _ _), se, Zu2 _ _ _ _ _ _, trivial⟩ ⟨⟨(fun w => .inl rfl), ⟨x5, x5, x5, x5, .inr ((fun v _ w w' hs hq => Zos hs hq)), .inr ((fun v _ w w' hs hq => Zva hs hq)), .inl (by kernel_rfl), .inl (by kernel_rfl), .inl (by kernel_rfl), trivial⟩⟩, ⟨(fun w => .inl rfl), ⟨x5, x5, x5, x5, .inr ((fun v _ w w' hs hq => Zov hs hq)), .inr ((fun v _ w w' hs hq => Zvd hs hq)), .inr ((fun v _ w w' hs hq => Zve hs hq)), x5, .inl (by kernel_rfl), trivial⟩⟩, trivial⟩ ⟨n5, n5, n5, n5, n5, n5, n5, n5, fun _ _ _ _ h => h, trivial⟩ ⟨gL.drew, hLr, by show _ ≤ wr.heap.size; omega, fun _ => hLg, fun _ => hU.row, hU.each⟩ ?_ ?_
   ·refine ⟨?_, ?_, ?_, ?_, ?_, ?_, ?_, ?_, ?_, trivial⟩
    ·refine Zf rfl fun a w' ek ef dn hr hg hin => ?_;have e1 : a (.tmp 1) = .pointer (some ⟨w.heap.size + 1, 0, none⟩) := Zl hin 1 rfl;refine Zj ?_ hg rfl;clear hin hg;go_simp;all_goals go_arith
    ·refine Zf rfl fun a w' ek ef dn hr hg hin => ?_;have e7 : a (.tmp 7) = _ := Ze hin 0 rfl;have n6 := hr.not1 6 (by kernel_rfl);have n8 := hr.notBy 8 6 n6 (by kernel_rfl);have z0 := Zd (hg.2.2.2.1 n8) 0 _ rfl;refine Zj ?_ hg rfl;clear hin hg hr;go_simp;all_goals go_arith
    ·refine Zf rfl fun a w' ek ef dn hr hg hin => ?_;refine Yh (f := 59) (args := #[]) ?_ ((Jm w').mono ?_)
     ·clear hin hg hr;go_simp;all_goals go_arith
     ·rintro e w2 ⟨rfl, g2⟩;exact ⟨_, rfl, g2, Zhb.grow hg g2, rfl⟩
    ·refine Zf rfl fun a w' ek ef dn hr hg hin => ?_;have e : a (.tmp 2) = .int .i64 (k : Int) := Zl hin 2 rfl;exact Z3 rfl hg e
    ·refine Zf rfl fun a w' ek ef dn hr hg hin => ?_;have e9 : a (.tmp 9) = _ := Ze hin 2 rfl;have e10 : a (.tmp 10) = _ := Ze hin 3 rfl;have n6 := hr.not1 6 (by kernel_rfl);refine Yh (f := 58) (args := #[.agg #[.int .i64 1, .int .i64 0, .int .i64 0, .slice none 0 0], .int .i64 (k : Int)]) ?_ ((Zd3 1 0 0 (k : Int) [] _ w' (Zip _) Zgs (by omega) (by omega)).mono ?_)
     ·clear hin hg hr;go_simp;all_goals go_arith
     ·rintro e w2 ⟨v', rfl, ho, g2⟩;rw [HBE.out, ← HL16.out] at ho;have hJ2 := Zhb.grow hg g2;exact ⟨_, rfl, g2, hJ2, Yi ho hg.2.2.1, Zf4 ho (hJ2.2.2.2.2.1 n6) (by decide)⟩
    ·refine Zf rfl fun a w' ek ef dn hr hg hin => ?_;have e11 : (Zjs (w.heap.size + 1 + 1) (.slice av bs.length cv) bl) (a (.tmp 11)) w' := Ze hin 4 rfl;have n6 := hr.not1 6 (by kernel_rfl);obtain ⟨a1, c1, h11⟩ := Yg e11.1;rw [h11] at e11;refine X4 (v := .slice (some ⟨w'.heap.size, 0, none⟩) 1 1) (w' := w'.alloc (.cells #[.slice a1 bl.length c1] 23)) ?_ (Zb _ _) (Zhb.grow hg (Zb _ _)) ⟨_, _, rfl, Zk _ _ _, fun q hq => by have := ((hg.2.2.2.2.1 n6).lt q hq).2; omega, Ziy _ _ _ _ _ _ (Zb _ _) e11⟩;clear hin hg hr e11;go_simp;all_goals go_arith
    ·refine Zf rfl fun a w' ek ef dn hr hg hin => ?_;have e8 : a (.tmp 8) = _ := Ze hin 1 rfl;have e12 : (Zl5 (w.heap.size + 1 + 1) (.slice av bs.length cv) bl) (a (.tmp 12)) w' := Ze hin 5 rfl;obtain ⟨b0, u, h12, hh0, hb0, ho⟩ := e12;have hrow := hg.2.2.2.2.1 hr.un;obtain ⟨v', w2, hrun, ho2, hg2⟩ := Zrl w' (w.heap.size + 1 + 1) bs.length b0 _ us u 27 hrow hh0 (by obtain ⟨a4, c4, rfl⟩ := Yg ho.1; rfl) (by omega) hg.2.2.1;have hst : Zbh (.slice av bs.length cv) w' w2 := .inr hg2;refine X4 (v := v') (w' := w2) ?_ hst ⟨Z7 hg.1 hg2 (fun k hk => by have := (hrow.lt k hk).1; omega), (hg2.block _ (Za hg.2.1) (Zi5 hrow (by decide) hg.2.1)).trans hg.2.1, Nat.le_trans hg.2.2.1 hg2.size, fun h8 => ?_, fun h => by simp [upd] at h, fun i hi => (hg.2.2.2.2.2 i hi).imp fun _ hu => ⟨hu.1, Zi4 hst (Zf4 hu.2 hrow (by decide)) hu.2⟩⟩ ⟨u, ho2, Zi4 hst ho.2 ho.1⟩
     ·exact Qt (.tmp 8) (.tmp 12) 27 rfl _ _ e8 h12 hrun
     ·have h8' := hg.2.2.2.1 h8;exact (hg2.block _ (Za h8') (Zi5 hrow (by decide) h8')).trans h8'
    ·refine Zf rfl fun a w' ek ef dn hr hg hin => ?_;have e1 : a (.tmp 1) = .pointer (some ⟨w.heap.size + 1, 0, none⟩) := Zl hin 1 rfl;refine Zj ?_ hg rfl;clear hin hg;go_simp;all_goals go_arith
    ·refine Zf rfl fun a w' ek ef dn hr hg hin => ?_;have e14 : a (.tmp 14) = _ := Ze hin 7 rfl;have e13 : (Zoh (w.heap.size + 1 + 1) bs.length us bl) (a (.tmp 13)) w' := Ze hin 6 rfl;obtain ⟨u, ho, hu⟩ := e13;obtain ⟨a3, c3, h13⟩ := Yg ho;have hh8 := hg.2.2.2.1 hr.un;have y3 := Zd hh8 0 _ rfl;have f3 := Zn hh8 0;have hp1 := Yb hh8 0 (a (.tmp 13));have hp2 : (w'.setCell ⟨w.heap.size + 1, 0, none⟩ (a (.tmp 13))).heap[w.heap.size + 1]? = some (.cells #[a (.tmp 13), .slice none 0 0] 30 (0, 0)) := by simpa using hp1
     have hstep : Yv 30 w' (w'.setCell ⟨w.heap.size + 1, 0, none⟩ (a (.tmp 13))) := .inr ⟨w.heap.size + 1, _, _, (Zp.refl _ _).set _ _ _, hh8, hp1, by simp⟩;refine Yk (w' := w'.setCell ⟨w.heap.size + 1, 0, none⟩ (a (.tmp 13))) ?_ hstep ⟨Z0 hg.1 (by show w.heap.size ≤ w.heap.size + 1; omega) _, ?_, by simpa using hg.2.2.1, fun h => by simp [upd] at h, fun h => ?_, fun i hi => (hg.2.2.2.2.2 i hi).imp fun _ hu => ⟨hu.1, Qi (by decide) hstep hu.2⟩⟩ ⟨hp2, u, Qi (by decide) hstep ho, Qi (by decide) hstep hu⟩
     ·clear hin hg hh8 hp1 hp2 hstep ho hu hr;go_simp;all_goals go_arith
     ·rw [Below.heap_setCell _ _ _ _ (by show w.heap.size ≠ w.heap.size + 1; omega)]; exact hg.2.1
     ·have := hr.rd 6 (by kernel_rfl);have h' : dn 6 = false := h;rw [this] at h'; cases h'
   ·intro vs w' dn hdn hg ht;obtain ⟨q7, q8, q9, q10, q11, q12, q13, q14, qo8, -⟩ := ht;have r7 : vs 0 = .pointer (some ⟨w.heap.size + 1, 0, none⟩) := q7;have r8 : vs 1 = .slice av bs.length cv := q8;have r9 : vs 2 = .agg #[.int .i64 1, .int .i64 0, .int .i64 0, .slice none 0 0] := q9;have r10 : vs 3 = .int .i64 (k : Int) := q10;replace q11 : (Zjs (w.heap.size + 1 + 1) (.slice av bs.length cv) bl) (vs 4) w' := q11;replace q12 : (Zl5 (w.heap.size + 1 + 1) (.slice av bs.length cv) bl) (vs 5) w' := q12;replace q13 : (Zoh (w.heap.size + 1 + 1) bs.length us bl) (vs 6) w' := q13;have r14 : vs 7 = .pointer (some ⟨w.heap.size + 1, 0, none⟩) := q14;replace qo8 : ((fun _ v w' => Zxp (w.heap.size + 1 + 1) (w.heap.size + 1) bs.length us bl v w')) (vs 8) (vs 6) w' := qo8;clear q7 q8 q9 q10 q14;simp only [Yc, Act.put, List.setIfInBounds_toArray, List.set_cons_zero, List.set_cons_succ, Nat.reduceAdd, r7, r8, r9, r10, r14];clear r7 r8 r9 r10 r14;obtain ⟨hp2, u, ho, hu⟩ := qo8;have hL2 := Vr.snoc hU ho hg.2.2.2.2.2 hu;rw [← HT.out] at hL2;have hend : Zuj w (Dk.new.blocks.take (k + 1)) w' := ⟨hg.1, hg.2.1, _, _, hp2, hL2⟩;clear hg hdn q11 q12 q13 hL2 hp2 ho hu hU hLr hLg gL;generalize vs 4 = u4;generalize vs 5 = u5;generalize vs 6 = u6;go_wp2_with fail;go_roundw
    case rel => exact ⟨k + 1, by omega, by simp, hend⟩
    case measure => simp [intOf]; omega
  ·have hk' : k = 12 := by omega
   subst hk';have hte : Dk.new.blocks.take 12 = Dk.new.blocks := List.take_of_length_le (by rw [Zdj]; omega);rw [hte] at hU;obtain ⟨av, cv, rfl⟩ := hU.p.form;obtain ⟨y0, y1⟩ := X3 hLg rfl rfl;obtain ⟨z0, z1⟩ := X3 hLr rfl rfl;have f0 := Zn hLr 0;have f1 := Zn hLr 1;have cs := Zx;obtain ⟨hp1, hp2⟩ := Qf hLr (.slice av Dk.new.blocks.length cv) (.slice none 0 0);have hstep : Yv 30 wr _ := .inr ⟨_, _, _, hp2, hLr, hp1, rfl⟩;have gE := hp2.grow gL (by omega);have hE := (hU.box hstep).mono (B' := w.heap.size) (by omega);clear hp1 hp2 hstep hU hLg hLr gL hte;generalize Dk.new.blocks.length = nn at *;go_wp2_with fail;exact bodyPost_ret (v := .agg #[.slice av nn cv, .slice none 0 0]) (by simp [results, Tryz.results34, go_sem, z0, z1, cs]) rfl ⟨_, rfl, ⟨_, _, rfl, ⟨us, hE⟩, Vf.nil _ _⟩, gE⟩
end Go.Proofs.YtikhknkpndhakabGreat
