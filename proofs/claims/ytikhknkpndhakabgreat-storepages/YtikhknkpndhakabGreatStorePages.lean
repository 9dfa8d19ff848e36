import Derived.Test.YtikhknkpndhakabGreatStoreP
import Derived.Test.YtikhknkpndhakabGreatStoreC
import Derived.ProofKit
import Derived.OpenShut
import Derived.SizedLaws
import Derived.Lib.SmallJoins
import Derived.Deep.SlicePairs
set_option maxHeartbeats 8000000
namespace Go.Proofs.YtikhknkpndhakabGreat
set_option maxRecDepth 100000
open Go.RowKit
open Plain Reg
theorem Zta {l : List Int} {i : Nat} (h : i < l.length) : (l.map iv)[i]? = some (.int .i64 l[i]) := by simp [iv, h]
theorem Zfj {w : World} {base n : Nat} {e : TypeId} {v : Value} {xs : List Value} (h : w.ownsRow base e 1 v n xs) (hn : 0 < n) : ∃ g c, v = .slice (some ⟨g, 0, none⟩) n c ∧ base ≤ g ∧ g < w.heap.size := by
 rcases h.2 with ⟨_, h0⟩ | ⟨g, c, cur, h1, h2, h3, _⟩
 ·omega
 ·exact ⟨g, c, h1, h2, Za h3⟩
theorem Zvr (g j : Nat) : (⟨g, 0, none⟩ : Addr).add j = ⟨g, j, none⟩ := by
 unfold Addr.add;split
 ·rename_i h; rw [h]
 ·rw [Nat.zero_add]
theorem Zgz (AL : Zol) (SG : Ztu) (SL : Znm) (l : List Sp) (most : Int) (v : Value) (w : World) (hl : Zgn (fun b => b < w.heap.size) w v l) (hm : l.length ≤ 140737488355328) (hdl : ∀ x ∈ l, x.deed.data.length ≤ 140737488355328) :
  Calls Tryz.prog 5 #[v, .int .i64 most] w fun r w' => r = .returned (.bool true) ∧ Zn w w' := by
 obtain ⟨ao, cp, rfl⟩ := hl.form;go_enter Tryz.func5, Tryz.ntmps5;go_wp2_with fail;refine (AL _).mono ?_;rintro r w1 ⟨rfl, g1⟩;by_cases h1 : most < 1
 ·go_wp2_with fail;go_ret;exact ⟨rfl, g1⟩
 ·by_cases h2 : 100 < most
  ·go_wp2_with fail;go_ret;exact ⟨rfl, g1⟩
  ·go_wp2_with fail;refine (Zo8 (fun b => b < w.heap.size) l _ w1 (fun b h => Nat.lt_of_lt_of_le h g1.size) (hl.grow g1) hm hdl).mono ?_;have HAT : Hid ((Vn (l.take 100)).1.At) := Zu0 _ _ Zel;generalize Vn (l.take 100) = P at *;obtain ⟨s, es, ns⟩ := P;simp only at HAT ⊢;rintro r w2 ⟨v2, ev, nv, rfl, hS2, he2, hn2, g2⟩;obtain ⟨b1, e1, l1, m1, i1, j1, hv2, -, -, -⟩ := hS2.form;subst hv2;obtain ⟨ae, ce, rfl⟩ := Z1 he2;obtain ⟨an, cn, rfl⟩ := Z1 hn2;have g3 := Zb w2 (.cells #[.slice b1 s.dk.blocks.length e1, .slice l1 s.dk.late.length m1, .slice i1 s.idx.length j1, .int .i64 s.next] 33);have hY3 := Zl w2 #[.slice b1 s.dk.blocks.length e1, .slice l1 s.dk.late.length m1, .slice i1 s.idx.length j1, .int .i64 s.next] 33;have hS3 := (hS2.grow g3).any;have gw3 := g1.trans (g2.trans g3);clear g1 g2 g3 hS2 he2 hn2;obtain ⟨K, hK⟩ : ∃ K, K = K8 s.recs 255 := ⟨_, rfl⟩;have HK : Hid _ := hK;have hK6 : K.length ≤ 6 := by rw [hK]; exact Nat.le_trans (Zp5 _ _) (Zvp HAT.out)
   have HKI : Hid ((∀ x ∈ K, 1 ≤ x ∧ x ≤ 255 ∧ (Kg s.recs x).e = 0) ∧ K.Pairwise (· < ·)) := by rw [hK]; exact Zc2 s.recs 255
   clear hK;go_wp2_with fail;obtain ⟨G, hG⟩ : ∃ G, G = w2.heap.size := ⟨_, rfl⟩;rw [← hG] at hY3 ⊢;clear hG;generalize World.alloc w2 _ = W at *;obtain ⟨ii, hifi, hzi0, hzi1, hzi2⟩ := info_parts Zdt;have HF0 : Hid (K.filter (fun x => decide ((1 : Int) ≤ x)) = K.drop 0) := by show _ = _; rw [List.drop_zero]; exact Zkt fun x hx => (HKI.out.1 x hx).1
   go_loopw [8, 9, 30] (fun av fv i wr => ∃ (j n : Nat) (fr : Int), j ≤ n ∧ i = .int .i64 (j : Int) ∧ n ≤ K.length ∧ fv = .int .i64 fr ∧ Hid (K.filter (fun x => decide (fr ≤ x)) = K.drop n) ∧ wr.ownsRow W.heap.size 3 1 av n ((K.take n).map iv) ∧ Zn W wr) (fun _ _ i _ => 9 - (intOf i).toNat)
   case atStart => exact ⟨0, 0, 1, by omega, rfl, by omega, rfl, HF0, World.ownsRow_nil _ _ _ _, Zn.refl _⟩
   case round =>
    obtain ⟨j, n, fr, hjn, rfl, hnK, rfl, HF, hrow, hgr⟩ := hrel;obtain ⟨aa, ca, rfl⟩ := Z1 hrow;have hYr := (hgr.block _ (Za hY3)).trans hY3;obtain ⟨y0, y1, y2, y3⟩ := Ye hYr rfl rfl rfl rfl;have hj9 : (j : Int) < 9 := by omega
    go_wp2_with fail;refine (SL (fun b => b < wr.heap.size) s fr most _ wr (fun b h => h) (hS3.grow hgr).now HAT.out).mono ?_;have hlist : Q8 s.recs fr most 255 = (K.drop n).take most.toNat := by rw [Zb4 _ _ _ (by omega), ← HK.out, HF.out]
    rw [hlist];obtain ⟨p, hp⟩ : ∃ p, p = (K.drop n).take most.toNat := ⟨_, rfl⟩;rw [← hp];have HP : Hid _ := hp;clear hp hlist;rintro r w4 ⟨v4, rfl, hp4, g4⟩;have hgr4 := hgr.trans g4;have hrow4 := Z2 hrow g4;have hpl : p.length = min most.toNat (K.length - n) := by rw [HP.out]; simp
    by_cases h0 : p.length = 0
    ·obtain rfl : n = K.length := by omega
     obtain ⟨ap, cpp, rfl⟩ := Z1 hp4;rw [h0] at hp4 ⊢;rw [List.take_length] at hrow4;have hY4 := (g4.block _ (Za hYr)).trans hYr;clear y0 y1 y2 y3 hYr hrow hgr g4 hp4 hpl HF HF0 hj9;obtain ⟨y0, y1, y2, y3⟩ := Ye hY4 rfl rfl rfl rfl;go_wp2_with fail;refine (SL (fun b => b < w4.heap.size) s 1 1000 _ w4 (fun b h => h) (hS3.grow hgr4).now HAT.out).mono ?_;have hall : Q8 s.recs 1 1000 255 = K := by
      rw [Zb4 _ _ _ (by omega), ← HK.out, Zkt (fun x hx => (HKI.out.1 x hx).1)];exact List.take_of_length_le (by show K.length ≤ 1000; omega)
     rw [hall];clear hall;rintro r w5 ⟨v5, rfl, hp5, g5⟩;obtain ⟨a5, c5, rfl⟩ := Z1 hp5;have hY5 := (g5.block _ (Za hY4)).trans hY4;have hrow5 := Z2 hrow4 g5;have hgr5 := hgr4.trans g5;clear y0 y1 y2 y3 hY4 hrow4 hgr4 g5;go_wp2_with fail;obtain ⟨wo, rfl⟩ : ∃ wo : World, wo = wr := ⟨_, rfl⟩;go_loopw [63] (fun i wq => ∃ k : Nat, k ≤ K.length ∧ i = .int .i64 (k : Int) ∧ Zn w5 wq) (fun i _ => K.length - (intOf i).toNat)
     case atStart => exact ⟨0, by omega, rfl, Zn.refl _⟩
     case round =>
      obtain ⟨k, hk, rfl, hgq⟩ := hrel;obtain ⟨wq, rfl⟩ : ∃ wq : World, wq = wr := ⟨_, rfl⟩;have hYq := (hgq.block _ (Za hY5)).trans hY5;have gwq := hgr5.trans hgq;by_cases hlt : k < K.length
      ·obtain ⟨go, co, ho, -, -⟩ := Zfj hp5 (by omega);cases ho;obtain ⟨ga, cga, hoa, -, -⟩ := Zfj hrow5 (by omega);cases hoa;have o0 : wq.cell? ⟨go, k, none⟩ = some (.int .i64 K[k]) := by
        rw [(Z2 hp5 hgq).cellAt k (by omega)]; exact Zta hlt
       obtain ⟨y0, y1, y2, y3⟩ := Ye hYq rfl rfl rfl rfl;have HGE : Hid ((Kg s.recs K[k]).e = 0) := (HKI.out.1 _ (List.getElem_mem hlt)).2.2;have HA0 : Hid (∀ w', Zn wq w' → w'.cell? ⟨ga, k, none⟩ = some (.int .i64 K[k])) := fun w' hg' => by
        rw [(Z2 (Z2 hrow5 hgq) hg').cellAt k (by omega)]; exact Zta hlt
       generalize K[k] = x at *;go_wp2_with fail;refine (SG (fun b => b < wq.heap.size) s x _ wq (fun b h => h) (hS3.grow gwq).now HAT.out).mono ?_;rw [HGE.out];generalize (Kg s.recs x).data = dt at *;rintro r w6 ⟨u6, rfl, hu6, g6⟩;obtain ⟨a6, c6, rfl⟩ := hu6.form;have o1 := HA0.out w6 g6;have hgq6 := hgq.trans g6;clear y0 y1 y2 y3 hYq o0 hu6 g6 hgq gwq;go_wp2_with fail;go_roundw
       case rel => exact ⟨k + 1, by omega, by go_num, hgq6⟩
       case measure => simp [intOf]; omega
      ·have gE := gw3.trans gwq;clear hYq;go_wp2_with fail;go_ret;exact ⟨rfl, gE⟩
    ·obtain ⟨gp, cpp, rfl, hgp1, hgp2⟩ := Zfj hp4 (by omega);obtain ⟨q, hq⟩ : ∃ q, p.length = q + 1 := ⟨p.length - 1, by omega⟩;have HPQ : Hid (K.take (n + (q + 1)) = K.take n ++ p) := by
      show _ = _;rw [List.take_add, ← hq, HP.out]
      congr 1
      rw [List.length_take, List.length_drop];by_cases e : most.toNat ≤ K.length - n
      ·rw [Nat.min_eq_left e]
      ·rw [Nat.min_eq_right (by omega), List.take_of_length_le (by simp), List.take_of_length_le (by simp; omega)]
     have hnq : n + (q + 1) ≤ K.length := by omega
     have hpm : ((q : Int) + 1) ≤ most := by omega
     have hlast : p[q]'(by omega) = K[n + q]'(by omega) := by
      have h1 : (K.take (n + (q + 1)))[n + q]'(by simp; omega) = K[n + q]'(by omega) := List.getElem_take;rw [← h1];simp only [HPQ.out];rw [List.getElem_append_right (by simp; omega)]
      congr 1
      simp; omega
     have hbd := HKI.out.1 _ (List.getElem_mem (show n + q < K.length by omega));have HFN : Hid (K.filter (fun x => decide (K[n + q]'(by omega) + 1 ≤ x)) = K.drop (n + (q + 1))) := by
      have h := Zqg HKI.out.2 (n := n + (q + 1)) (by omega) hnq;exact h
     have hpc : ∀ (t : Nat) u, (p.map iv)[t]? = some u → w4.cell? ((⟨gp, 0, none⟩ : Addr).add t) = some u := fun t u ht => by
      have htl : t < p.length := by
       rcases Nat.lt_or_ge t p.length with h | h
       ·exact h
       ·rw [List.getElem?_eq_none (by simpa using h)] at ht; cases ht
      rw [Zvr, hp4.cellAt t (by omega)]; exact ht
     have hcq : w4.cell? ⟨gp, q, none⟩ = some (.int .i64 (K[n + q]'(by omega))) := by
      rw [hp4.cellAt q (by omega), Zta (by omega), hlast]
     have hne : some gp ≠ (Value.slice aa n ca).ownBlock := fun e => by
      have := (hrow.lt gp e.symm).2; omega
     have HHK : Hid _ := hbd.2.2;have hb1 := hbd.1;have hb2 := hbd.2.1;generalize K[n + q]'(by omega) = x at *;rw [hq] at hp4 ⊢;have hml : (p.map iv).length = (q + 1) * 1 := by simp [hq]
     clear y0 y1 y2 y3 hYr hbd hlast hpl h0 HF HF0 hp4;go_wp2_with (at_builtin; refine wpList_append_own _ rfl (.tmp 43) (.tmp 44) 36 rfl W.heap.size 3 ii (.int .i64 0) 1 8 Tryz.underlying36 hifi hzi0 hzi1 hzi2 rfl (by decide) (.slice aa n ca) _ _ rfl hrow4 ⟨gp, 0, none⟩ (q + 1) cpp (p.map iv) rfl hml hpc (by intro u hu; obtain ⟨z, _, rfl⟩ := List.mem_map.1 hu; rfl) (by unfold maxLen; omega) (by omega) hgr4.size ?_; intro v5 w5 hown5 hgrow5 _; have hg5 : Zn W w5 := Z5 hgr4 hgrow5 (fun k hk => (hrow4.lt k hk).1); have hc5 : w5.cell? ⟨gp, q, none⟩ = some (.int .i64 x) := (by rw [← hcq]; unfold World.cell?; rw [hgrow5.block gp hgp2 hne]); have hrow5 : w5.ownsRow W.heap.size 3 1 v5 (n + (q + 1)) ((K.take (n + (q + 1))).map iv) := (by rw [HPQ.out, List.map_append]; exact hown5); have hsl := Z1 hrow5; obtain ⟨a5, c5, hv5⟩ := hsl; subst hv5; clear hgrow5 hown5 hrow4 hpc hcq hgr4);go_roundw
     case rel => exact ⟨j + 1, n + (q + 1), x + 1, by omega, by go_num, hnq, by go_num, HFN, hrow5, hg5⟩
     case measure => simp [intOf]; omega
end Go.Proofs.YtikhknkpndhakabGreat
namespace Go.Proofs.YtikhknkpndhakabGreat
set_option maxRecDepth 100000
open Go.RowKit Go.ChangeShapes Go.WideShapes Go.ChangeAt
open Plain Reg
theorem Zt9 {n : Int} (h : (Lit.int .u8 n).wf = true) : 0 ≤ n ∧ n < 256 := by
 have : 0 ≤ n ∧ n ≤ 255 := by simpa [Lit.wf, IntKind.min, IntKind.max, IntKind.signed, IntKind.bits] using h
 omega
def Jn (zs : List Int) : List UInt8 := zs.map fun n => UInt8.ofNat n.toNat
theorem Zqu {w : World} {x : Addr} {len cap : Nat} {zs : List Int} (hl : len ≤ cap) (hz : zs.length = cap)
  (hc : ∀ i, i < zs.length → w.cell? (x.add i) = some (.int .u8 (zs.getD i 0))) (hw : ∀ n ∈ zs, (Lit.int .u8 n).wf = true) :
  Bytes w (.slice (some x) len cap) (Jn (zs.take len)) := by
 have e : (Jn (zs.take len)).length = len := by simp [Jn]; omega
 by_cases h0 : len = 0
 ·subst h0;exact .inl ⟨some x, cap, rfl, by simp [Jn], fun h => by cases h⟩
 ·obtain ⟨b, off, rfl, hc'⟩ := ints_at hc (by omega);refine .inr ⟨b, off, cap, by rw [e], by omega, fun i hi => ?_⟩;have hi' : i < zs.length := by omega
  rw [hc' i hi'];have h1 : zs.getD i 0 = zs[i] := by rw [List.getD_eq_getElem?_getD, List.getElem?_eq_getElem hi']; rfl
  have h2 := Zt9 (hw zs[i] (List.getElem_mem hi'));have h3 : ((Jn (zs.take len))[i].toNat : Int) = zs[i] := by
   simp only [Jn, List.getElem_map, List.getElem_take];rw [UInt8.toNat_ofNat'];omega
  rw [h1, h3]
end Go.Proofs.YtikhknkpndhakabGreat
namespace Go.Proofs.YtikhknkpndhakabGreat
set_option maxRecDepth 100000
open Go.RowKit Go.ChangeShapes Go.WideShapes Go.ChangeAt Go.Deep
open Plain Reg
section
variable {H : Type} {enc : TypeId × Value → H} {W : World}
theorem Zib {P : Program} {ts : List TypeId} {ds : List (DataW H)} (h : (DataW.weightsEach P ts ds).all (· ≤ reachBytes) = true) {j : Nat} {t : TypeId} {d : DataW H} (ht : ts[j]? = some t) (hd : ds[j]? = some d) : (d.weights P t).all (· ≤ reachBytes) = true := by
 rw [List.all_eq_true] at h ⊢;exact fun n hn => h n (DataW.weights_mem_each ht hd n hn)
theorem Zms {fuel : Nat} {v : Value} {x : DataW H × List MemPlace} (h : DataW.trod enc Tryz.prog W 0 (fun _ => true) true fuel 23 [v] = some x) (hs : (x.1.weights Tryz.prog 23).all (· ≤ reachBytes) = true) :
  ∃ l, Bytes W v l ∧ l.length ≤ 140737488351232 := by
 rcases open_ints Tryz.underlying23 Tryz.underlying5 (by kernel_rfl) h with ⟨hcs, _⟩ | ⟨a, len, cap, zs, hcs, _, hl, hm, hz, hx, hcell, hwz⟩
 ·simp only [List.cons.injEq, and_true] at hcs;subst hcs;exact ⟨[], .inl ⟨none, 0, rfl, rfl, fun _ => rfl⟩, by simp⟩
 ·simp only [List.cons.injEq, and_true] at hcs;subst hcs;have hzz : zs.length = cap := by simpa using hz
  subst hx;have hs2 : (lits (H := H) .u8 (zs.take len)).length + (lits (H := H) .u8 (zs.drop len)).length ≤ reachBytes := by
   have h3 := (List.all_eq_true.1 hs) (((lits (H := H) .u8 (zs.take len)).length + (lits (H := H) .u8 (zs.drop len)).length) * Tryz.prog.bytesOf 5) (by simp [DataW.weights, Tryz.underlying23]);rw [show Tryz.prog.bytesOf 5 = 1 from by kernel_rfl, Nat.mul_one] at h3;simpa using h3
  simp only [lits, List.length_map, List.length_take, List.length_drop, reachBytes] at hs2;refine ⟨Jn (zs.take len), Zqu hl hzz hcell hwz, ?_⟩;simp [Jn]; omega
end
end Go.Proofs.YtikhknkpndhakabGreat
namespace Go.Proofs.YtikhknkpndhakabGreat
set_option maxRecDepth 100000
open Go.RowKit Go.ChangeShapes Go.WideShapes Go.ChangeAt Go.Deep
open Plain Reg
section
variable {H : Type} {enc : TypeId × Value → H} {W : World}
theorem Zml {a : Addr} {u : Value} (h : W.cell? (a.add 0) = some u) : ∃ b off, a = ⟨b, off, none⟩ := by
 obtain ⟨b, off, spot⟩ := a;cases spot with
 | none => exact ⟨b, off, rfl⟩
 | some s =>
  exfalso;unfold World.cell? Addr.add at h;simp only [if_true] at h;split at h <;> simp_all
theorem Zhp (b off i : Nat) : (⟨b, off, none⟩ : Addr).add i = ⟨b, off + i, none⟩ := by
 unfold Addr.add;split
 ·rename_i h; rw [h]; rfl
 ·rfl
end
section
variable {H : Type} {enc : TypeId × Value → H} {W : World}
instance : Inhabited Rec := ⟨⟨0, 0, 0, []⟩⟩
instance : Inhabited Ent := ⟨⟨⟨0, 0, 0, []⟩, 0⟩⟩
end
section
variable {H : Type} {enc : TypeId × Value → H} {W : World}
end
section
variable {H : Type} {enc : TypeId × Value → H} {W : World}
theorem Zeu {P : Program} {e : TypeId} : ∀ {l : List (DataW H)} {d : DataW H}, d ∈ l → ∀ n ∈ d.weights P e, n ∈ DataW.weightsAll P e l
 | c :: r, d, h, n, hn => by
  rw [DataW.weightsAll, List.mem_append];rcases List.mem_cons.1 h with rfl | h
  ·exact .inl hn
  ·exact .inr (Zeu h n hn)
theorem Zmr {α : Type} [Inhabited α] (sh : Qm α) (Q : α → Prop) {t : TypeId} {fuel : Nat} {v : Value} {x : DataW H × List MemPlace} (ht : Tryz.prog.underlying t = some (.slice sh.T)) (hc : Tryz.prog.cellsOf sh.T = sh.size) (hz : 0 < sh.size) {by_ : Nat} (hby : Tryz.prog.bytesOf sh.T = by_)
  (hopen : ∀ (fuel : Nat) (cs : List Value) (y : DataW H × List MemPlace), DataW.trod enc Tryz.prog W 0 (fun _ => true) true fuel sh.T cs = some y → (y.1.weights Tryz.prog sh.T).all (· ≤ reachBytes) = true → ∃ z : α, sh.enc (fun b => b < W.heap.size) W z cs ∧ Q z)
  (h : DataW.trod enc Tryz.prog W 0 (fun _ => true) true fuel t [v] = some x) (hs : (x.1.weights Tryz.prog t).all (· ≤ reachBytes) = true) :
  ∃ xs, Yj sh (fun b => b < W.heap.size) W v xs ∧ xs.length * by_ ≤ 140737488351232 ∧ ∀ z ∈ xs, Q z := by
 rcases open_slice ht h with ⟨hcs, _⟩ | ⟨a, len, cap, m, n, D, Pl, hcs, _, hl, hm, hmm, hx, hV⟩
 ·simp only [List.cons.injEq, and_true] at hcs;subst hcs;exact ⟨[], .inl ⟨none, 0, rfl, rfl, fun _ => rfl⟩, by simp, by simp⟩
 ·simp only [List.cons.injEq, and_true] at hcs;subst hcs;have hmc : m = cap := by simpa using hmm
  subst hmc;subst hx;have hex : ∀ i, i < len → ∃ z : α, ∃ cs, (sh.enc (fun b => b < W.heap.size) W z cs ∧ Q z) ∧ ∀ (j : Nat) (u : Value), cs[j]? = some u → W.cell? (a.add (i * sh.size + j)) = some u := by
   intro i hi;obtain ⟨cs, h1, h2⟩ := hV i (by omega);rw [hc] at h1;obtain ⟨_, hlen, hcell⟩ := World.cells?_some h1;have hwt : ((D i).weights Tryz.prog sh.T).all (· ≤ reachBytes) = true := by
    rw [List.all_eq_true] at hs ⊢;intro k hk;refine hs k ?_;have := Zeu (P := Tryz.prog) (e := sh.T) (l := (List.range len).map D) (List.mem_map.2 ⟨i, List.mem_range.2 hi, rfl⟩) k hk;simp only [DataW.weights, ht];exact List.mem_cons_of_mem _ (List.mem_append_left _ this)
   obtain ⟨z, hz⟩ := hopen _ _ _ h2 hwt;refine ⟨z, cs, hz, fun j u hj => ?_⟩;have hjl := (List.getElem?_eq_some_iff.1 hj).1;have := hcell j (by omega);rw [add_add] at this;rw [this]; exact hj
  obtain ⟨f, hf⟩ := choose_lt hex;have hw : len * by_ ≤ reachBytes := by
   have h3 := (List.all_eq_true.1 hs) ((((List.range len).map D).length + ((List.range (m - len)).map fun j => D (len + j)).length) * Tryz.prog.bytesOf sh.T) (by simp [DataW.weights, ht]);rw [hby] at h3;simp only [List.length_map, List.length_range, decide_eq_true_eq] at h3;exact Nat.le_trans (Nat.mul_le_mul_right _ (by omega)) h3
  refine ⟨(List.range len).map f, ?_, by simp [reachBytes] at hw ⊢; omega, fun z hz => by
   obtain ⟨i, hi, rfl⟩ := List.mem_map.1 hz;obtain ⟨_, k1, _⟩ := hf i (List.mem_range.1 hi);exact k1.2⟩
  by_cases h0 : len = 0
  ·subst h0;exact .inl ⟨some a, m, rfl, by simp, fun h => by cases h⟩
  ·obtain ⟨cs0, e1, e2⟩ := hf 0 (by omega);have hl0 := sh.len e1.1;have e3 := e2 0 cs0[0] (List.getElem?_eq_getElem (by omega));rw [Nat.zero_mul, Nat.zero_add] at e3;obtain ⟨b, off, rfl⟩ := Zml e3;refine .inr ⟨b, off, m, ?_, by simp, by simpa using hl, fun i hi => ?_⟩
   ·rw [Zhp] at e3;exact Zt e3
   ·obtain ⟨cs, k1, k2⟩ := hf i (by simpa using hi);refine ⟨cs, by simpa using k1.1, fun j u hj => ?_⟩;have := k2 j u hj;rw [Zhp] at this;rw [Nat.add_assoc]; exact this
theorem Zm8 {fuel : Nat} {cs : List Value} {x : DataW H × List MemPlace} (h : DataW.trod enc Tryz.prog W 0 (fun _ => true) true fuel 25 cs = some x) (hs : (x.1.weights Tryz.prog 25).all (· ≤ reachBytes) = true) :
  ∃ (e : Dd) (u : Value), cs = [.int .i64 e.kind, .int .i64 e.key, .int .i64 e.num, u] ∧ Bytes W u e.data ∧ e.data.length ≤ 140737488351232 := by
 obtain ⟨y0, y1, y2, y3, m, hx, hl, h0, h1, h2, h3⟩ := Go.Joins.trod_struct4 Tryz.underlying25 h;have hc4 : Tryz.prog.cellsOf 25 = 4 := by kernel_rfl
 have t0 : Tryz.prog.cellsOf 3 = 1 := by kernel_rfl
 have t1 : Tryz.prog.cellsOf 23 = 1 := by kernel_rfl
 rw [hc4] at hl;subst hx;have hw3 : (y3.1.weights Tryz.prog 23).all (· ≤ reachBytes) = true := by
  simp only [DataW.weights, Tryz.underlying25] at hs;exact Zib (j := 3) hs rfl rfl
 match cs, hl with
 | [c0, c1, c2, c3], _ =>
  simp only [t0, t1, List.drop_zero, List.drop_succ_cons, List.take_succ_cons, List.take_zero] at h0 h1 h2 h3;obtain ⟨a0, e0, f0, -⟩ := DataW.trod_int Tryz.underlying3 h0;obtain ⟨a1, e1, f1, -⟩ := DataW.trod_int Tryz.underlying3 h1;obtain ⟨a2, e2, f2, -⟩ := DataW.trod_int Tryz.underlying3 h2;simp only [List.cons.injEq, and_true] at e0 e1 e2;subst e0; subst e1; subst e2;obtain ⟨l, hb, hlb⟩ := Zms h3 hw3;exact ⟨⟨a0, a1, a2, l⟩, c3, rfl, hb, hlb⟩
theorem Zlv {fuel : Nat} {cs : List Value} {x : DataW H × List MemPlace} (h : DataW.trod enc Tryz.prog W 0 (fun _ => true) true fuel 70 cs = some x) (hs : (x.1.weights Tryz.prog 70).all (· ≤ reachBytes) = true) :
  ∃ (e : Sp) (u : Value), cs = [.int .i64 e.kind, .int .i64 e.n, .int .i64 e.m, .int .i64 e.deed.kind, .int .i64 e.deed.key, .int .i64 e.deed.num, u] ∧ Bytes W u e.deed.data ∧ e.deed.data.length ≤ 140737488351232 := by
 obtain ⟨y0, y1, y2, y3, m, hx, hl, h0, h1, h2, h3⟩ := Go.Joins.trod_struct4 Tryz.underlying70 h;have hc7 : Tryz.prog.cellsOf 70 = 7 := by kernel_rfl
 have hc4 : Tryz.prog.cellsOf 25 = 4 := by kernel_rfl
 have t0 : Tryz.prog.cellsOf 3 = 1 := by kernel_rfl
 rw [hc7] at hl;subst hx;have hw3 : (y3.1.weights Tryz.prog 25).all (· ≤ reachBytes) = true := by
  simp only [DataW.weights, Tryz.underlying70] at hs;exact Zib (j := 3) hs rfl rfl
 match cs, hl with
 | [c0, c1, c2, c3, c4, c5, c6], _ =>
  simp only [t0, hc4, List.drop_zero, List.drop_succ_cons, List.take_succ_cons, List.take_zero] at h0 h1 h2 h3;obtain ⟨a0, e0, f0, -⟩ := DataW.trod_int Tryz.underlying3 h0;obtain ⟨a1, e1, f1, -⟩ := DataW.trod_int Tryz.underlying3 h1;obtain ⟨a2, e2, f2, -⟩ := DataW.trod_int Tryz.underlying3 h2;simp only [List.cons.injEq, and_true] at e0 e1 e2;subst e0; subst e1; subst e2;obtain ⟨d, u, e3, hb, hlb⟩ := Zm8 h3 hw3;simp only [List.cons.injEq, and_true] at e3;obtain ⟨rfl, rfl, rfl, rfl⟩ := e3;exact ⟨⟨a0, a1, a2, d⟩, c6, rfl, hb, hlb⟩
instance : Inhabited Sp := ⟨⟨0, 0, 0, ⟨0, 0, 0, []⟩⟩⟩
theorem Zmq {fuel : Nat} {v : Value} {x : DataW H × List MemPlace} (h : DataW.trod enc Tryz.prog W 0 (fun _ => true) true fuel 22 [v] = some x) (hs : (x.1.weights Tryz.prog 22).all (· ≤ reachBytes) = true) : ∃ l, Zgn (fun b => b < W.heap.size) W v l ∧ l.length ≤ 140737488351232 ∧ ∀ z ∈ l, z.deed.data.length ≤ 140737488351232 := by
 obtain ⟨l, h1, h2, h3⟩ := Zmr Zn5 (fun z => z.deed.data.length ≤ 140737488351232) Tryz.underlying22 (by kernel_rfl) (by decide) (by_ := 72) (by kernel_rfl) (fun _ cs _ h hw => by
  obtain ⟨e, u, rfl, hb, hl⟩ := Zlv h hw;exact ⟨e, ⟨u, rfl, Zi9 hb⟩, hl⟩) h hs
 exact ⟨l, h1, by omega, h3⟩
end
end Go.Proofs.YtikhknkpndhakabGreat
