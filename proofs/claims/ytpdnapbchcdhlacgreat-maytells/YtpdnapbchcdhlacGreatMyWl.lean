import Derived.Test.YtpdnapbchcdhlacGreatPyDo
import Derived.ProofKit
import Derived.OpenShut
import Derived.SizedLaws
import Derived.Lib.SmallJoins
import Derived.Deep.SlicePairs
set_option maxHeartbeats 8000000
namespace Go.Proofs.YtpdnapbchcdhlacGreat
set_option maxRecDepth 100000
open Go.RowKit
open Plain Reg
variable {k : Nat}
theorem Ztc {s : St} (h : s.Inv) {x : Sp} (hx : Xd s x = true) : (Qj s.recs x).any (fun t => Qp (s.step x).st.recs t) = true := by
 have hs : (s.step x).st.recs = s.recs → Qp (s.step x).st.recs s.recs = true := fun e => by rw [e]; exact K3 _
 by_cases hg : x.goes s.recs
 ·by_cases k1 : x.kind = 1
  ·rw [Zbg hg k1];have e : s.step x = s.doS x.deed := by unfold St.step; rw [if_pos k1]
   rw [e];simp [(Zvj h hg.2.1).2.2.1]
  ·rw [Zbf hg k1];have k2 : x.kind = 2 := hg.1.resolve_left k1;simp only [List.any_cons, List.any_nil, Bool.or_false, Bool.or_eq_true];by_cases he : (s.begin x.deed).e = 0
   ·have e : (s.step x).st = Xw ((s.begin x.deed).st.dk.keep x.n) := by unfold St.step; rw [if_neg k1, if_pos k2, if_neg (by simpa using he)]
    rw [e] at hs ⊢;exact (Zg8 h he x.n).2.imp hs id
   ·have e : (s.step x).st = s := by unfold St.step; rw [if_neg k1, if_pos k2, if_pos he]
    exact .inl (hs (by rw [e]))
 ·rw [Km hg];have e : (s.step x).st.recs = s.recs := by
   rcases Zqu h hx with e | ⟨hk, he, -⟩
   ·exact e
   ·exact absurd ⟨hk, Zhm he⟩ hg
  simp [hs e]
theorem Zmd {l : List (List Rec)} {p : List Rec → Bool} (hk : k < l.length) (h0 : ∀ x ∈ l.take k, p x = false) (h1 : p l[k] = true) : l.findIdx? p = some k := by
 rw [List.findIdx?_eq_some_iff_getElem];refine ⟨hk, h1, fun j hj => ?_⟩;have := h0 l[j] (List.mem_take_iff_getElem.2 ⟨j, by omega, rfl⟩);simp [this]
theorem Zse {l : List (List Rec)} {p : List Rec → Bool} (h0 : ∀ x ∈ l, p x = false) : l.findIdx? p = none := List.findIdx?_eq_none_iff.2 h0
theorem Zou (K : Nat) (caps : Array Value) (P : List Rec → Bool) (S : Nat → Prop) (l : List (List Rec)) (v : Value) (w : World) (hK : ∀ (args : Array Value) (w : World), (callFunc K args).run Tryz.prog w = .ok (.enter K args) w) (hl : Kb S w v l) (hn : l.length ≤ 1000000)
  (hc : ∀ (x : List Rec) (a : Option Addr) (c : Nat) (w' : World), x ∈ l → Zn w w' → Y2 S w' (.slice a x.length c) x → Calls Tryz.prog K (#[.slice a x.length c] ++ caps) w' fun e w2 => e = .returned (.bool (P x)) ∧ Zn w' w2) :
  Calls Tryz.prog 162 #[v, .func (.func K) #[] caps] w fun e w' => e = .returned (.int .i64 (Zhy (l.findIdx? P))) ∧ Zn w w' := by
 obtain ⟨ao, cp, rfl⟩ := Zs.form hl;obtain ⟨R, hR⟩ : ∃ R, R = Zhy (l.findIdx? P) := ⟨_, rfl⟩;rw [← hR];have HR : Hid _ := hR;clear hR;go_enter Tryz.func162, Tryz.ntmps162;go_wp2_with fail;go_loopw [8] (fun i wr => ∃ k : Nat, k ≤ l.length ∧ i = .int .i64 k ∧ Hid (∀ x ∈ l.take k, P x = false) ∧ Zn w wr) (fun i _ => l.length - (intOf i).toNat)
 case atStart => exact ⟨0, Nat.zero_le _, rfl, (by show ∀ _, _; simp), Zn.refl _⟩
 case round =>
  obtain ⟨k, hk, rfl, HN, hg⟩ := hrel;by_cases hlt : k < l.length
  ·obtain ⟨b, off, a1, c1, hv1, q0, hu⟩ := Zgv (Zs.grow hl hg) k hlt;cases hv1;have HM : Hid (l[k] ∈ l) := List.getElem_mem hlt;have HF : Hid (P l[k] = true → R = (k : Int)) := fun h => by rw [HR.out, Zmd hlt HN.out h]; rfl
   have HT : Hid (P l[k] = false → ∀ x ∈ l.take (k + 1), P x = false) := fun h x hx => by
    rw [List.take_succ_eq_append_getElem hlt] at hx;rcases List.mem_append.1 hx with h1 | h1
    ·exact HN.out x h1
    ·rw [List.mem_singleton.1 h1]; exact h
   generalize l[k] = x at *;go_wp2_with fail;refine (hc x a1 c1 _ HM.out hg hu).mono ?_;rintro e w2 ⟨rfl, g2⟩;have gw := hg.trans g2;clear g2 hg q0 hu;obtain ⟨B, hB⟩ : ∃ B, B = P x := ⟨_, rfl⟩;rw [← hB];have HB : Hid _ := hB;clear hB;cases B with
   | false =>
    have HT2 : Hid _ := HT.out HB.out.symm;clear HT HF HB;go_wp2_with fail;go_roundw
    case rel => exact ⟨k + 1, by omega, by go_num, HT2, gw⟩
    case measure => simp [intOf]; omega
   | true =>
    obtain rfl : R = (k : Int) := HF.out HB.out.symm;clear HT HF HB HR;go_wp2_with fail;go_ret;exact ⟨rfl, gw⟩
  ·obtain rfl : R = -1 := by rw [HR.out, Zse fun x hx => HN.out x (by rw [List.take_of_length_le (by omega)]; exact hx)]; rfl
   clear HR;go_wp2_with fail;go_ret;exact ⟨rfl, hg⟩
theorem Zvd (P : List Rec → Bool) (l : List (List Rec)) : decide (0 ≤ Zhy (l.findIdx? P)) = l.any P := by
 cases h : l.findIdx? P with
 | none =>
  have h2 := List.findIdx?_eq_none_iff.1 h;have : l.any P = false := by rw [List.any_eq_false]; intro x hx; rw [h2 x hx]; simp
  rw [this]; rfl
 | some i =>
  obtain ⟨h2, h3, -⟩ := List.findIdx?_eq_some_iff_getElem.1 h;have : l.any P = true := by rw [List.any_eq_true]; exact ⟨l[i], List.getElem_mem h2, h3⟩
  rw [this];exact decide_eq_true (show (0 : Int) ≤ (i : Int) by omega)
theorem Zh4 (K : Nat) (caps : Array Value) (P : List Rec → Bool) (S : Nat → Prop) (l : List (List Rec)) (v : Value) (w : World) (hK : ∀ (args : Array Value) (w : World), (callFunc K args).run Tryz.prog w = .ok (.enter K args) w) (hl : Kb S w v l) (hn : l.length ≤ 1000000)
  (hc : ∀ (x : List Rec) (a : Option Addr) (c : Nat) (w' : World), x ∈ l → Zn w w' → Y2 S w' (.slice a x.length c) x → Calls Tryz.prog K (#[.slice a x.length c] ++ caps) w' fun e w2 => e = .returned (.bool (P x)) ∧ Zn w' w2) :
  Calls Tryz.prog 126 #[v, .func (.func K) #[] caps] w fun e w' => e = .returned (.bool (l.any P)) ∧ Zn w w' := by
 rw [← Zvd];obtain ⟨I, hI⟩ : ∃ I, I = Zhy (l.findIdx? P) := ⟨_, rfl⟩;rw [← hI];have HI : Hid _ := hI;clear hI;go_enter Tryz.func126, Tryz.ntmps126;go_wp2_with fail;refine (Zou K caps P S l v w hK hl hn hc).mono ?_;rw [← HI.out];rintro e w1 ⟨rfl, g1⟩;clear hl hc HI;go_wp2_with fail;go_ret;exact ⟨rfl, g1⟩
theorem Zh1 (args : Array Value) (w : World) : (callFunc 127 args).run Tryz.prog w = .ok (.enter 127 args) w := by
 simp [callFunc, Tryz.func127, Tryz.f127, mark]
theorem Zj2 (args : Array Value) (w : World) : (callFunc 63 args).run Tryz.prog w = .ok (.enter 63 args) w := by
 simp [callFunc, Tryz.func63, Tryz.f63, mark]
theorem Zok (S S' : Nat → Prop) (x b : List Rec) (a a' : Option Addr) (c c' : Nat) (g : Nat) (w : World) (hx : Y2 S w (.slice a x.length c) x) (hb : Y2 S' w (.slice a' b.length c') b) (hm : b.length ≤ 1000000) (hn : x.length ≤ 1000000) (hp : w.heap[g]? = some (.cells #[.slice a' b.length c'] 58 (0, 0))) :
  Calls Tryz.prog 127 #[.slice a x.length c, .pointer (some ⟨g, 0, none⟩)] w fun e w' => e = .returned (.bool (Qp b x)) ∧ Zn w w' := by
 have y0 := Zc hp 0 _ rfl;go_enter Tryz.func127, Tryz.ntmps127;go_wp2_with fail;refine (Zrs S' S b x _ _ _ hb hx hm hn).mono ?_;rintro e w1 ⟨rfl, g1⟩;clear y0 hp hx hb;go_wp2_with fail;go_ret;exact ⟨rfl, g1⟩
theorem Zzb (S : Nat → Prop) (l b : List Rec) (x : Sp) (v u : Value) (ad : Option Addr) (c : Nat) (w : World) (hS : ∀ b, S b → b < w.heap.size) (hr : Q3 l = true) (hl : Y2 S w v l) (hb : Y2 S w u b) (hm : b.length ≤ 1000) (hd : Z2 S w (.slice ad x.deed.data.length c) x.deed.data) (hdl : x.deed.data.length ≤ 140737488355328) :
  Calls Tryz.prog 96 #[v, .agg #[.int .i64 x.kind, .int .i64 x.n, .int .i64 x.m, .int .i64 x.deed.kind, .int .i64 x.deed.key, .int .i64 x.deed.num, .slice ad x.deed.data.length c], u] w fun r w' => r = .returned (.bool ((Qj l x).any fun t => Qp b t)) ∧ Zn w w' := by
 obtain ⟨ao, cp, rfl⟩ := Zs.form hl;obtain ⟨bo, cb, rfl⟩ := Zs.form hb;obtain ⟨R, hR⟩ : ∃ R, R = ((Qj l x).any fun t => Qp b t) := ⟨_, rfl⟩;rw [← hR];have HR : Hid _ := hR;clear hR;have gw := Zq w (.cells #[.int .i64 x.kind, .int .i64 x.n, .int .i64 x.m, .int .i64 x.deed.kind, .int .i64 x.deed.key, .int .i64 x.deed.num, .slice ad x.deed.data.length c] 49) (.cells #[.slice bo b.length cb] 58);have hX0 := Zh w #[.int .i64 x.kind, .int .i64 x.n, .int .i64 x.m, .int .i64 x.deed.kind, .int .i64 x.deed.key, .int .i64 x.deed.num, .slice ad x.deed.data.length c] 49;have hB := Zh (w.alloc (.cells #[.int .i64 x.kind, .int .i64 x.n, .int .i64 x.m, .int .i64 x.deed.kind, .int .i64 x.deed.key, .int .i64 x.deed.num, .slice ad x.deed.data.length c] 49)) #[.slice bo b.length cb] 58;have hX := ((Zb (w.alloc (.cells #[.int .i64 x.kind, .int .i64 x.n, .int .i64 x.m, .int .i64 x.deed.kind, .int .i64 x.deed.key, .int .i64 x.deed.num, .slice ad x.deed.data.length c] 49)) (.cells #[.slice bo b.length cb] 58)).block _ (Za hX0)).trans hX0;rw [World.size_alloc] at hB;have hlw := Zs.grow hl gw;have hbw := Zs.grow hb gw;have hdw := hd.grow gw;have HRT : Hid (Q3 l = true) := hr;have HFW : Hid ((Qj l x).length ≤ 2 ∧ ∀ y ∈ Qj l x, y.length ≤ 1000) := ⟨by rcases Zeq l x with h | ⟨-, h⟩ | ⟨-, h, -⟩ <;> rw [h] <;> simp, fun y hy => by have := Zix l x y hy; have := (Kc hr).1; omega⟩;clear hX0 hl hb hd hr;go_enter Tryz.func96, Tryz.ntmps96;go_upto_region 1 with fail
 obtain ⟨G, hG⟩ : ∃ G, G = w.heap.size + 1 := ⟨_, rfl⟩;rw [← hG] at hB ⊢;have HG : Hid _ := hG;clear hG;generalize World.alloc (World.alloc w _) _ = W at *;obtain ⟨p0, p1, p2, p3, p4⟩ := Qb hX rfl rfl rfl rfl rfl;have p5 := Zc hX 5 _ rfl;have p6 := Zc hX 6 _ rfl;go_wp2_with fail;refine (Zuh S l x _ ad c W (fun b h => Nat.lt_of_lt_of_le (hS b h) gw.size) HRT.out hlw hdw hdl).mono ?_;generalize Qj l x = L at *;rintro r w1 ⟨v1, rfl, h1, g1⟩;obtain ⟨a1, c1, rfl⟩ := Zs.form h1;have hB1 := (g1.block _ (Za hB)).trans hB;have hb1 := Zs.grow hbw g1;have gw1 := gw.trans g1;clear p0 p1 p2 p3 p4 p5 p6 hX hB hlw hbw hdw gw g1;go_wp2_with fail;refine (Zh4 127 #[.pointer (some ⟨G, 0, none⟩)] (fun t => Qp b t) _ L _ w1 Zh1 h1 (by have := HFW.out.1; omega) (fun y a c w' hy hg h => Zok _ _ y b a bo c cb G w' h (Zs.grow hb1 hg) (by omega) (by have := HFW.out.2 y hy; omega) ((hg.block _ (Za hB1)).trans hB1))).mono ?_;rw [← HR.out];rintro r w2 ⟨rfl, g2⟩;have gE := gw1.trans g2;clear hB1 hb1 h1 gw1 g2 HR;go_wp2_with fail;go_ret;exact ⟨rfl, gE⟩
def Zqh (P : Sp → Prop) : Prop := ∀ (S : Nat → Prop) (s : St) (x : Sp) (v : Value) (ad : Option Addr) (c : Nat) (w : World), P x → (∀ b, S b → b < w.heap.size) → Z8 S s v w → Z2 S w (.slice ad x.deed.data.length c) x.deed.data → s.At → x.deed.data.length ≤ 140737488355328 →
 Calls Tryz.prog 20 #[v, .agg #[.int .i64 x.kind, .int .i64 x.n, .int .i64 x.m, .int .i64 x.deed.kind, .int .i64 x.deed.key, .int .i64 x.deed.num, .slice ad x.deed.data.length c]] w fun r w' => ∃ v', r = .returned (.tuple #[v', .int .i64 (s.step x).n, .int .i64 (s.step x).e]) ∧ Z8 (Zt S w.heap.size) (s.step x).st v' w' ∧ Zn w w'
theorem Zyf : Zqh fun _ => True := fun S s x v ad c w _ => Z0r S s x v ad c w
theorem Zy7 (P : Sp → Prop) (PD : Zqh P) (S : Nat → Prop) (s : St) (x : Sp) (v : Value) (ad : Option Addr) (c : Nat) (w : World) (hS : ∀ b, S b → b < w.heap.size) (hs : Z8 S s v w) (hd : Z2 S w (.slice ad x.deed.data.length c) x.deed.data) (hA : s.At) (hdl : x.deed.data.length ≤ 140737488355328) (hP : P x) :
  Calls Tryz.prog 63 #[v, .agg #[.int .i64 x.kind, .int .i64 x.n, .int .i64 x.m, .int .i64 x.deed.kind, .int .i64 x.deed.key, .int .i64 x.deed.num, .slice ad x.deed.data.length c]] w fun r w' => ∃ v', r = .returned v' ∧ Z8 (Zt S w.heap.size) (s.step x).st v' w' ∧ Zn w w' := by
 obtain ⟨ab, cb, al, cl, ai, ci, rfl, -, -, -⟩ := hs.form;obtain ⟨g0, hs1, hd1, hz1, HWs⟩ := Zow w #[.slice ab s.dk.blocks.length cb, .slice al s.dk.late.length cl, .slice ai s.idx.length ci, .int .i64 s.next] #[.int .i64 x.kind, .int .i64 x.n, .int .i64 x.m, .int .i64 x.deed.kind, .int .i64 x.deed.key, .int .i64 x.deed.num, .slice ad x.deed.data.length c] 29 49;have hnz : ¬ Zt S (w.heap.size + 3) (w.heap.size + 2) := Ym (fun b h => by have := hS b h; omega) (by omega);have HAT : Hid (s.At) := hA;obtain ⟨s9, hs9⟩ : ∃ s9, s9 = (s.step x).st := ⟨_, rfl⟩;rw [← hs9];have HS9 : Hid _ := hs9;clear hA hs9;go_enter Tryz.func63, Tryz.ntmps63;obtain ⟨d0, d1, d2, d3, d4⟩ := Qb hd1 rfl rfl rfl rfl rfl;have d5 := Zc hd1 5 _ rfl;have d6 := Zc hd1 6 _ rfl;obtain ⟨s0, s1, s2, s3⟩ := Z7 hs1 rfl rfl rfl rfl;go_wp2_with fail;generalize World.alloc (World.alloc (World.alloc w _) _) _ = W at *;have hWs := HWs.out;clear HWs;refine (PD S s x _ ad c W hP (fun b h => by have := hS b h; omega) (hs.grow g0) (hd.grow g0) HAT.out hdl).mono ?_;rw [hWs, ← HS9.out];generalize (s.step x).n = n9 at *;generalize (s.step x).e = f9 at *;rintro r w1 ⟨v1, rfl, hS1, g1⟩;obtain ⟨b9, e9, l9, m9, i9, j9, hv9, -, -, -⟩ := hS1.form;subst hv9;have g2 := Zb w1 (.cells #[.slice b9 s9.dk.blocks.length e9, .slice l9 s9.dk.late.length m9, .slice i9 s9.idx.length j9, .int .i64 s9.next] 29);have hY := Zh w1 #[.slice b9 s9.dk.blocks.length e9, .slice l9 s9.dk.late.length m9, .slice i9 s9.idx.length j9, .int .i64 s9.next] 29
 have gg := g1.trans g2;have hz9 := (gg.block _ (Za hz1)).trans hz1;have gw9 := g0.trans gg;have hS9 := hS1.grow g2;obtain ⟨y0, y1, y2, y3⟩ := Z7 hY rfl rfl rfl rfl;clear hs1 hd1 hz1 d0 d1 d2 d3 d4 d5 d6 s0 s1 s2 s3 g0 g1 g2 gg hS1 hs hd hY;obtain ⟨hq1, hq2⟩ := Yg hz9 (.slice b9 s9.dk.blocks.length e9) (.slice l9 s9.dk.late.length m9) (.slice i9 s9.idx.length j9) (.int .i64 s9.next);obtain ⟨z0, z1, z2, z3⟩ := Z7 hz9 rfl rfl rfl rfl;obtain ⟨o0, o1, o2, o3⟩ := Yr hz9;obtain ⟨x0, x1, x2, x3⟩ := Z7 hq1 rfl rfl rfl rfl;have cs := Zr;have gE := hq2.grow gw9 (by omega);have hE := (hS9.but hq2 hnz).mono (Z0 (B := w.heap.size) (by omega));clear hq1 hq2 hz9 gw9 hS9;go_wp2_with fail;exact bodyPost_ret (v := .agg #[.slice b9 s9.dk.blocks.length e9, .slice l9 s9.dk.late.length m9, .slice i9 s9.idx.length j9, .int .i64 s9.next]) (by simp [results, Tryz.results63, go_sem, x0, x1, x2, x3]) rfl ⟨_, rfl, hE, gE⟩
theorem Zwl {s : St} {l : List Sp} (h : k < l.length) (hg : Xd s l[k] = true) : Qv s (l.drop k) = Qv (s.step l[k]).st (l.drop (k + 1)) + 1 := by
 rw [List.drop_eq_getElem_cons h];show (if Xd s l[k] = true then _ else _) = _;rw [if_pos hg]
theorem Zs8 {s : St} {l : List Sp} (h : k < l.length) (hg : Xd s l[k] = false) : Qv s (l.drop k) = 0 := by
 rw [List.drop_eq_getElem_cons h];show (if Xd s l[k] = true then _ else _) = _;rw [if_neg (by rw [hg]; simp)]
theorem Zvp {s : St} (h : s.At) : Q3 s.recs = true := Zed h.ok.right h.ok.len
theorem Zz4 (P : Sp → Prop) (PD : Zqh P) (S : Nat → Prop) (l : List Sp) (v : Value) (w : World) (hS : ∀ b, S b → b < w.heap.size) (hl : Zak S w v l) (hm : l.length ≤ 140737488355328) (hdl : ∀ x ∈ l, x.deed.data.length ≤ 140737488355328) (hPl : ∀ x ∈ l, P x) :
  Calls Tryz.prog 62 #[v, .func (.func 63) #[] #[]] w fun r w' => r = .returned (.tuple #[.int .i64 (Qv X3 l : Int), .bool true]) ∧ Zn w w' := by
 obtain ⟨ao, cp, rfl⟩ := hl.form;have hK := Zj2;obtain ⟨R, hR⟩ : ∃ R, R = Qv X3 l := ⟨_, rfl⟩;rw [← hR];have HPLl : Hid (∀ x ∈ l, P x) := hPl;have HTW0 : Hid (R = 0 + Qv X3 (l.drop 0)) := by show _ = _; rw [hR, List.drop_zero, Nat.zero_add]
 have HIV0 : Hid (X3.Inv) := Zxl;clear hR hPl;go_enter Tryz.func62, Tryz.ntmps62;go_wp2_with fail;refine (Zrc (fun b => b < w.heap.size) w (fun b h => h)).mono ?_;generalize X3 = s0 at *;rintro r w1 ⟨v1, rfl, h1, g1⟩;obtain ⟨b1, e1, l1, m1, i1, j1, hv1, -, -, -⟩ := h1.form;subst hv1;obtain ⟨T0, hT0⟩ : ∃ T0, T0 = w1.heap.size := ⟨_, rfl⟩;have g2 := Zb w1 (.cells #[.slice b1 s0.dk.blocks.length e1, .slice l1 s0.dk.late.length m1, .slice i1 s0.idx.length j1, .int .i64 s0.next] 29);have hT2 := Zh w1 #[.slice b1 s0.dk.blocks.length e1, .slice l1 s0.dk.late.length m1, .slice i1 s0.idx.length j1, .int .i64 s0.next] 29;have hS2 : Z8 (fun b => b ≠ T0) s0 (.agg #[.slice b1 s0.dk.blocks.length e1, .slice l1 s0.dk.late.length m1, .slice i1 s0.idx.length j1, .int .i64 s0.next]) (w1.alloc (.cells #[.slice b1 s0.dk.blocks.length e1, .slice l1 s0.dk.late.length m1, .slice i1 s0.idx.length j1, .int .i64 s0.next] 29)) := (h1.any.now.grow g2).mono (fun b h => by omega);have gw2 := g1.trans g2;have hwT : w.heap.size ≤ T0 := by have := g1.size; omega
 rw [← hT0] at hT2;have HT0 : Hid _ := hT0;clear hT0 h1 g1 g2;go_upto_region 2 with fail
 rw [← HT0.out];clear HT0;generalize World.alloc w1 _ = w2 at *;go_wp2_with fail;go_loopw [13] (fun n wr => ∃ (k : Nat) (T : St) (b1 : Option Addr) (e1 : Nat) (l1 : Option Addr) (m1 : Nat) (i1 : Option Addr) (j1 : Nat), k ≤ l.length ∧ n = .int .i64 (k : Int) ∧ wr.heap[T0]? = some (.cells #[.slice b1 T.dk.blocks.length e1, .slice l1 T.dk.late.length m1, .slice i1 T.idx.length j1, .int .i64 T.next] 29 (0, 0)) ∧ Z8 (fun b => b ≠ T0) T (.agg #[.slice b1 T.dk.blocks.length e1, .slice l1 T.dk.late.length m1, .slice i1 T.idx.length j1, .int .i64 T.next]) wr ∧ Hid (T.Inv) ∧ Hid (R = k + Qv T (l.drop k)) ∧ Zn w wr) (fun n _ => l.length - (intOf n).toNat)
 case atStart => exact ⟨0, s0, b1, e1, l1, m1, i1, j1, by omega, rfl, hT2, hS2, HIV0, HTW0, gw2⟩
 case round =>
  clear hT2 hS2 HIV0 HTW0 gw2;obtain ⟨k, T, b1, e1, l1, m1, i1, j1, hk, rfl, hT, hSt, HIV, HTW, gw⟩ := hrel;by_cases hlt : k < l.length
  ·obtain ⟨bb, off, ay, cy, hao, q0, q1, q2, q3, q4, q5, q6, hbd⟩ := Zf0 (hl.grow gw) k hlt;cases hao;have HDL : Hid (l[k].deed.data.length ≤ 140737488355328) := hdl _ (List.getElem_mem hlt);have HPL : Hid (P l[k]) := HPLl.out _ (List.getElem_mem hlt);have HGY : Hid (Xd T l[k] = true → Qv T (l.drop k) = Qv (T.step l[k]).st (l.drop (k + 1)) + 1) := fun h => Zwl hlt h
   have HGN : Hid (Xd T l[k] = false → Qv T (l.drop k) = 0) := fun h => Zs8 hlt h
   generalize l[k] = y at *;obtain ⟨X, hX⟩ : ∃ X, X = wr.heap.size := ⟨_, rfl⟩;have g4 := Zb wr (.cells #[.int .i64 y.kind, .int .i64 y.n, .int .i64 y.m, .int .i64 y.deed.kind, .int .i64 y.deed.key, .int .i64 y.deed.num, .slice ay y.deed.data.length cy] 49);have hX4 := Zh wr #[.int .i64 y.kind, .int .i64 y.n, .int .i64 y.m, .int .i64 y.deed.kind, .int .i64 y.deed.key, .int .i64 y.deed.num, .slice ay y.deed.data.length cy] 49;have hT4 := (g4.block _ (Za hT)).trans hT;have hS4 := hSt.grow g4;have hb4 := hbd.grow g4;have gw4 := gw.trans g4;have hTX : T0 ≠ X := by have := Za hT; omega
   rw [← hX] at hX4;have HX : Hid _ := hX;clear hX hT hSt hbd gw g4;go_upto_region 5 with fail
   rw [← HX.out];clear HX q0 q1 q2 q3 q4 q5 q6;generalize World.alloc wr _ = w4 at *;obtain ⟨x0, x1, x2, x3, x4⟩ := Qb hX4 rfl rfl rfl rfl rfl;have x5 := Zc hX4 5 _ rfl;have x6 := Zc hX4 6 _ rfl;obtain ⟨y0, y1, y2, y3⟩ := Z7 hT4 rfl rfl rfl rfl;go_wp2_with fail;refine (Zp7 (fun b => b < w4.heap.size) T y _ ay cy w4 (fun b h => h) hS4.any.now (Za1 hb4) HIV.out.at' HDL.out).mono ?_;obtain ⟨gq, hgq⟩ : ∃ gq, gq = Xd T y := ⟨_, rfl⟩;rw [← hgq];have HGQ : Hid _ := hgq;clear hgq;rintro r w5 ⟨rfl, g5⟩;have hX5 := (g5.block _ (Za hX4)).trans hX4;have hT5 := (g5.block _ (Za hT4)).trans hT4;have hS5 := hS4.grow g5;have hb5 := hb4.grow g5;have gw5 := gw4.trans g5;clear x0 x1 x2 x3 x4 x5 x6 y0 y1 y2 y3 hX4 hT4 hS4 hb4 gw4 g5;cases gq with
   | false =>
    obtain rfl : R = k := by have := HTW.out; rw [HGN.out HGQ.out.symm] at this; exact this
    clear HGN HGY HTW HGQ hX5 hT5 hS5 hb5;go_wp2_with fail;exact bodyPost_ret (v := .tuple #[.int .i64 (R : Int), .bool true]) (by simp [results, Tryz.results62, go_sem]) rfl ⟨rfl, gw5⟩
   | true =>
    have HK : Hid (R = k + 1 + Qv (T.step y).st (l.drop (k + 1))) := by show _ = _; rw [HTW.out, HGY.out HGQ.out.symm]; omega
    have HBI : Hid ((T.step y).st.Inv) := Zks HIV.out HGQ.out.symm;have HMB : Hid ((Qj T.recs y).any (fun t => Qp (T.step y).st.recs t) = true) := Ztc HIV.out HGQ.out.symm;obtain ⟨B, hB⟩ : ∃ B, B = (T.step y).st := ⟨_, rfl⟩;rw [← hB] at HK HBI HMB;have HB : Hid _ := hB;clear HGN HGY HTW HGQ hB;obtain ⟨x0, x1, x2, x3, x4⟩ := Qb hX5 rfl rfl rfl rfl rfl;have x5 := Zc hX5 5 _ rfl;have x6 := Zc hX5 6 _ rfl;obtain ⟨y0, y1, y2, y3⟩ := Z7 hT5 rfl rfl rfl rfl;have hT5l := Za hT5;go_wp2_with fail;refine (Zy7 P PD (fun b => b ≠ T0 ∧ b < w5.heap.size) T y _ ay cy w5 (fun b h => h.2) hS5.capd (hb5.caps.mono (fun b h => ⟨by have := hS b h.1; omega, h.2⟩)) HIV.out.at' HDL.out HPL.out).mono ?_;rw [← HB.out];rintro r w7 ⟨v7, rfl, hS7, g7⟩;obtain ⟨b9, e9, l9, m9, i9, j9, hv7, -, -, -⟩ := hS7.form;subst hv7;obtain ⟨N, hN⟩ : ∃ N, N = w7.heap.size := ⟨_, rfl⟩;have g8 := Zb w7 (.cells #[.slice b9 B.dk.blocks.length e9, .slice l9 B.dk.late.length m9, .slice i9 B.idx.length j9, .int .i64 B.next] 29);have hN8 := Zh w7 #[.slice b9 B.dk.blocks.length e9, .slice l9 B.dk.late.length m9, .slice i9 B.idx.length j9, .int .i64 B.next] 29;have hX8 := ((g7.trans g8).block _ (Za hX5)).trans hX5;have hT8 := ((g7.trans g8).block _ (Za hT5)).trans hT5;have hS8 := hS5.grow (g7.trans g8);have hb8 := hb5.grow (g7.trans g8);have gw8 := gw5.trans (g7.trans g8);have hB8 := (hS7.grow g8).mono (S' := fun b => b ≠ T0) (by rintro b (h | h); exact h.1; show b ≠ T0; omega);rw [← hN] at hN8;have HN : Hid _ := hN
    clear hN x0 x1 x2 x3 x4 x5 x6 y0 y1 y2 y3 hX5 hT5 hS5 hb5 gw5 g7 g8 hS7 hT5l;go_upto_region 8 with fail
    rw [← HN.out];clear HN;generalize World.alloc w7 _ = w8 at *;refine Yb [ex (.agg #[.slice b1 T.dk.blocks.length e1, .slice l1 T.dk.late.length m1, .slice i1 T.idx.length j1, .int .i64 T.next]), ((fun v w' => Y2 (fun _ => True) w' v T.recs)), ex (.agg #[.int .i64 y.kind, .int .i64 y.n, .int .i64 y.m, .int .i64 y.deed.kind, .int .i64 y.deed.key, .int .i64 y.deed.num, .slice ay y.deed.data.length cy]), ex (.agg #[.slice b9 B.dk.blocks.length e9, .slice l9 B.dk.late.length m9, .slice i9 B.idx.length j9, .int .i64 B.next]), ((fun v w' => Y2 (fun _ => True) w' v B.recs)), ex (.bool true), ex (.bool false)] (by kernel_rfl) (by kernel_rfl) ⟨Zj _, (fun _ _ _ hg h => Zs.grow h hg), Zj _, Zj _, (fun _ _ _ hg h => Zs.grow h hg), Zj _, Zj _, trivial⟩ ?_ ?_
    ·refine ⟨?_, ?_, ?_, ?_, ?_, ?_, ?_, trivial⟩
     ·refine Ze rfl fun a _ _ _ B A => ?_;have e6 : a (.tmp 6) = .pointer (some ⟨T0, 0, none⟩) := Zy A 6 rfl;have hh := (B.block _ (Za hT8)).trans hT8;obtain ⟨z0, z1, z2, z3⟩ := Z7 hh rfl rfl rfl rfl;refine Zo ?_ rfl;clear A B hh;go_simp;all_goals go_arith
     ·refine Ze rfl fun a B _ _ C A => ?_;have e27 : a (.tmp 27) = _ := Zg A 0 rfl;refine Yv (f := 97) (args := #[.agg #[.slice b1 T.dk.blocks.length e1, .slice l1 T.dk.late.length m1, .slice i1 T.idx.length j1, .int .i64 T.next]]) ?_ ((Zky (fun b => b < B.heap.size) T _ B (fun b h => h) (hS8.grow C).any.now HIV.out.at').mono ?_)
      ·clear A C;go_simp;all_goals go_arith
      ·rintro e w2 ⟨v2, rfl, hE, g2⟩;exact ⟨_, rfl, g2, Zk9 hE⟩
     ·refine Ze rfl fun a _ _ _ B A => ?_;have e8 : a (.tmp 8) = .pointer (some ⟨X, 0, none⟩) := Zy A 8 rfl;have hh := (B.block _ (Za hX8)).trans hX8;obtain ⟨z0, z1, z2, z3, z4⟩ := Qb hh rfl rfl rfl rfl rfl;have z5 := Zc hh 5 _ rfl;have z6 := Zc hh 6 _ rfl;refine Zo ?_ rfl;clear A B hh;go_simp;all_goals go_arith
     ·refine Ze rfl fun a _ _ _ B A => ?_;have e9 : a (.tmp 9) = .pointer (some ⟨N, 0, none⟩) := Zy A 9 rfl;have hh := (B.block _ (Za hN8)).trans hN8;obtain ⟨z0, z1, z2, z3⟩ := Z7 hh rfl rfl rfl rfl;refine Zo ?_ rfl;clear A B hh;go_simp;all_goals go_arith
     ·refine Ze rfl fun a C _ _ D A => ?_;have e30 : a (.tmp 30) = _ := Zg A 3 rfl;refine Yv (f := 97) (args := #[.agg #[.slice b9 B.dk.blocks.length e9, .slice l9 B.dk.late.length m9, .slice i9 B.idx.length j9, .int .i64 B.next]]) ?_ ((Zky (fun b => b < C.heap.size) B _ C (fun b h => h) (hB8.grow D).any.now HBI.out.at').mono ?_)
      ·clear A D;go_simp;all_goals go_arith
      ·rintro e w2 ⟨v2, rfl, hE, g2⟩;exact ⟨_, rfl, g2, Zk9 hE⟩
     ·refine Ze rfl fun a C _ _ D A => ?_;have e28 : ((fun v C => Y2 (fun _ => True) C v T.recs)) (a (.tmp 28)) C := Zg A 1 rfl;have e29 : a (.tmp 29) = _ := Zg A 2 rfl;have e31 : ((fun v C => Y2 (fun _ => True) C v B.recs)) (a (.tmp 31)) C := Zg A 4 rfl;replace e28 := Zs.mono (Zs.caps e28 (by decide)) (S' := fun b => b < C.heap.size) (fun b h => h.2);replace e31 := Zs.mono (Zs.caps e31 (by decide)) (S' := fun b => b < C.heap.size) (fun b h => h.2);refine Yv (f := 96) (args := #[a (.tmp 28), .agg #[.int .i64 y.kind, .int .i64 y.n, .int .i64 y.m, .int .i64 y.deed.kind, .int .i64 y.deed.key, .int .i64 y.deed.num, .slice ay y.deed.data.length cy], a (.tmp 31)]) ?_ ((Zzb (fun b => b < C.heap.size) T.recs B.recs y _ _ ay cy C (fun b h => h) (Zvp HIV.out.at') e28 e31 (by have := Zx8 HBI.out.at'; omega) (Za1 (hb8.grow D)) HDL.out).mono ?_)
      ·clear A D e28 e31;go_simp;all_goals go_arith
      ·rw [HMB.out];rintro e w2 ⟨rfl, g2⟩;exact ⟨_, rfl, g2, rfl⟩
     ·refine Ze rfl fun a _ _ _ B A => ?_;have e32 : a (.tmp 32) = _ := Zg A 5 rfl;refine Zo ?_ rfl;clear A B;go_simp;all_goals go_arith
    ·intro vs w' hg ht;obtain ⟨(r27 : vs 0 = _), q28, (r29 : vs 2 = _), (r30 : vs 3 = _), q31, (r32 : vs 5 = _), (r33 : vs 6 = _), -⟩ := ht;simp only [Ye, Act.put, List.setIfInBounds_toArray, List.set_cons_zero, List.set_cons_succ, r27, r29, r30, r32, r33];clear r27 r29 r30 r32 r33;have hT9 := (hg.block _ (Za hT8)).trans hT8;have hN9 := (hg.block _ (Za hN8)).trans hN8;have hB9 := hB8.grow hg;have gw9 := gw8.trans hg;clear q28 q31 hg hT8 hN8 hX8 hB8 hS8 hb8 gw8;obtain ⟨w9, hw9⟩ : ∃ w9, w9 = w' := ⟨_, rfl⟩;rw [← hw9] at hT9 hN9 hB9 gw9 ⊢;clear hw9;obtain ⟨hq1, hq2⟩ := Yg hT9 (.slice b9 B.dk.blocks.length e9) (.slice l9 B.dk.late.length m9) (.slice i9 B.idx.length j9) (.int .i64 B.next);obtain ⟨z0, z1, z2, z3⟩ := Z7 hT9 rfl rfl rfl rfl;obtain ⟨o0, o1, o2, o3⟩ := Yr hT9;obtain ⟨n0, n1, n2, n3⟩ := Z7 hN9 rfl rfl rfl rfl;have cs := Zr;have gE := hq2.grow gw9 hwT;have hE := hB9.but hq2 (fun h => h rfl);clear hq2 hT9 hN9 gw9 hB9;go_wp2_with fail;go_roundw
     case rel => exact ⟨k + 1, B, b9, e9, l9, m9, i9, j9, by omega, by go_num, hq1, hE, HBI, HK, gE⟩
     case measure => simp [intOf]; omega
  ·obtain rfl : R = l.length := by
    have h := HTW.out;have hkl : k = l.length := by omega
    subst hkl;rw [List.drop_length] at h;exact h
   clear HTW hT hSt;go_wp2_with fail;exact bodyPost_ret (v := .tuple #[.int .i64 (l.length : Int), .bool true]) (by simp [results, Tryz.results62, go_sem]) rfl ⟨rfl, gw⟩
theorem Zyg (P : Sp → Prop) (PD : Zqh P) (S : Nat → Prop) (l : List Sp) (v : Value) (w : World) (hS : ∀ b, S b → b < w.heap.size) (hl : Zak S w v l) (hm : l.length ≤ 140737488355328) (hdl : ∀ x ∈ l, x.deed.data.length ≤ 140737488355328) (hPl : ∀ x ∈ l, P x) :
  Calls Tryz.prog 31 #[v] w fun r w' => r = .returned (.tuple #[.int .i64 (Qv X3 l : Int), .bool true]) ∧ Zn w w' := by
 obtain ⟨R, hR⟩ : ∃ R : Int, R = (Qv X3 l : Int) := ⟨_, rfl⟩;rw [← hR];have HR : Hid _ := hR;clear hR;go_enter Tryz.func31, Tryz.ntmps31;go_wp2_with fail;refine (Zz4 P PD S l v w hS hl hm hdl hPl).mono ?_;rw [← HR.out];rintro r w1 ⟨rfl, g1⟩;clear hl HR;go_wp2_with fail;exact bodyPost_ret (v := .tuple #[.int .i64 R, .bool true]) (by simp [results, Tryz.results31, go_sem]) rfl ⟨rfl, g1⟩
theorem Zzc : Zqi := fun S l v w hS hl hm hdl => Zyg _ Zyf S l v w hS hl (by omega) hdl fun _ _ => trivial
theorem Zz5 : Zv7 := fun S l v w hS hl hm hdl => (Zyg _ Zyf S l v w hS hl hm hdl fun _ _ => trivial).mono fun _ _ h => ⟨_, _, h.1, h.2⟩
end Go.Proofs.YtpdnapbchcdhlacGreat
namespace Go.Proofs.YtpdnapbchcdhlacGreat
set_option maxRecDepth 100000
open Go.RowKit Go.ChangeShapes Go.WideShapes Go.ChangeAt
open Plain Reg
theorem Zwk {n : Int} (h : (Lit.int .u8 n).wf = true) : 0 ≤ n ∧ n < 256 := by
 have : 0 ≤ n ∧ n ≤ 255 := by simpa [Lit.wf, IntKind.min, IntKind.max, IntKind.signed, IntKind.bits] using h
 omega
def Jh (zs : List Int) : List UInt8 := zs.map fun n => UInt8.ofNat n.toNat
theorem Zi6 {w : World} {x : Addr} {len cap : Nat} {zs : List Int} (hl : len ≤ cap) (hz : zs.length = cap)
  (hc : ∀ i, i < zs.length → w.cell? (x.add i) = some (.int .u8 (zs.getD i 0))) (hw : ∀ n ∈ zs, (Lit.int .u8 n).wf = true) :
  Bytes w (.slice (some x) len cap) (Jh (zs.take len)) := by
 have e : (Jh (zs.take len)).length = len := by simp [Jh]; omega
 by_cases h0 : len = 0
 ·subst h0;exact .inl ⟨some x, cap, rfl, by simp [Jh], fun h => by cases h⟩
 ·obtain ⟨b, off, rfl, hc'⟩ := ints_at hc (by omega);refine .inr ⟨b, off, cap, by rw [e], by omega, fun i hi => ?_⟩;have hi' : i < zs.length := by omega
  rw [hc' i hi'];have h1 : zs.getD i 0 = zs[i] := by rw [List.getD_eq_getElem?_getD, List.getElem?_eq_getElem hi']; rfl
  have h2 := Zwk (hw zs[i] (List.getElem_mem hi'));have h3 : ((Jh (zs.take len))[i].toNat : Int) = zs[i] := by
   simp only [Jh, List.getElem_map, List.getElem_take];rw [UInt8.toNat_ofNat'];omega
  rw [h1, h3]
end Go.Proofs.YtpdnapbchcdhlacGreat
namespace Go.Proofs.YtpdnapbchcdhlacGreat
set_option maxRecDepth 100000
open Go.RowKit Go.ChangeShapes Go.WideShapes Go.ChangeAt Go.Deep
open Plain Reg
section
variable {H : Type} {enc : TypeId × Value → H} {W : World}
theorem Zdi {P : Program} {ts : List TypeId} {ds : List (DataW H)} (h : (DataW.weightsEach P ts ds).all (· ≤ reachBytes) = true) {j : Nat} {t : TypeId} {d : DataW H} (ht : ts[j]? = some t) (hd : ds[j]? = some d) : (d.weights P t).all (· ≤ reachBytes) = true := by
 rw [List.all_eq_true] at h ⊢;exact fun n hn => h n (DataW.weights_mem_each ht hd n hn)
theorem Zoc {fuel : Nat} {v : Value} {x : DataW H × List MemPlace} (h : DataW.trod enc Tryz.prog W 0 (fun _ => true) true fuel 45 [v] = some x) (hs : (x.1.weights Tryz.prog 45).all (· ≤ reachBytes) = true) :
  ∃ l, Bytes W v l ∧ l.length ≤ 140737488351232 := by
 rcases open_ints Tryz.underlying45 Tryz.underlying5 (by kernel_rfl) h with ⟨hcs, _⟩ | ⟨a, len, cap, zs, hcs, _, hl, hm, hz, hx, hcell, hwz⟩
 ·simp only [List.cons.injEq, and_true] at hcs;subst hcs;exact ⟨[], .inl ⟨none, 0, rfl, rfl, fun _ => rfl⟩, by simp⟩
 ·simp only [List.cons.injEq, and_true] at hcs;subst hcs;have hzz : zs.length = cap := by simpa using hz
  subst hx;have hs2 : (lits (H := H) .u8 (zs.take len)).length + (lits (H := H) .u8 (zs.drop len)).length ≤ reachBytes := by
   have h3 := (List.all_eq_true.1 hs) (((lits (H := H) .u8 (zs.take len)).length + (lits (H := H) .u8 (zs.drop len)).length) * Tryz.prog.bytesOf 5) (by simp [DataW.weights, Tryz.underlying45]);rw [show Tryz.prog.bytesOf 5 = 1 from by kernel_rfl, Nat.mul_one] at h3;simpa using h3
  simp only [lits, List.length_map, List.length_take, List.length_drop, reachBytes] at hs2;refine ⟨Jh (zs.take len), Zi6 hl hzz hcell hwz, ?_⟩;simp [Jh]; omega
end
end Go.Proofs.YtpdnapbchcdhlacGreat
namespace Go.Proofs.YtpdnapbchcdhlacGreat
set_option maxRecDepth 100000
open Go.RowKit Go.ChangeShapes Go.WideShapes Go.ChangeAt Go.Deep
open Plain Reg
section
variable {H : Type} {enc : TypeId × Value → H} {W : World}
theorem Zgg {a : Addr} {u : Value} (h : W.cell? (a.add 0) = some u) : ∃ b off, a = ⟨b, off, none⟩ := by
 obtain ⟨b, off, spot⟩ := a;cases spot with
 | none => exact ⟨b, off, rfl⟩
 | some s =>
  exfalso;unfold World.cell? Addr.add at h;simp only [if_true] at h;split at h <;> simp_all
theorem Zcl (b off i : Nat) : (⟨b, off, none⟩ : Addr).add i = ⟨b, off + i, none⟩ := by
 unfold Addr.add;split
 ·rename_i h; rw [h]; rfl
 ·rfl
theorem Zln {fuel : Nat} {v : Value} {x : DataW H × List MemPlace} (h : DataW.trod enc Tryz.prog W 0 (fun _ => true) true fuel 45 [v] = some x) : ∃ l, Bytes W v l := by
 rcases open_ints Tryz.underlying45 Tryz.underlying5 (by kernel_rfl) h with ⟨hcs, _⟩ | ⟨a, len, cap, zs, hcs, _, hl, hm, hz, hx, hcell, hwz⟩
 ·simp only [List.cons.injEq, and_true] at hcs;subst hcs;exact ⟨[], .inl ⟨none, 0, rfl, rfl, fun _ => rfl⟩⟩
 ·simp only [List.cons.injEq, and_true] at hcs;subst hcs;have hzz : zs.length = cap := by simpa using hz
  exact ⟨Jh (zs.take len), Zi6 hl hzz hcell hwz⟩
end
variable {fuel : Nat} {v : Value}
section
variable {H : Type} {enc : TypeId × Value → H} {W : World}
theorem Zrm {α : Type} (i0 : Inhabited α) (sh : Ql α) {t : TypeId} {fuel : Nat} {v : Value} {x : DataW H × List MemPlace} (ht : Tryz.prog.underlying t = some (.slice sh.T)) (hc : Tryz.prog.cellsOf sh.T = sh.size) (hz : 0 < sh.size) {by_ : Nat} (hby : Tryz.prog.bytesOf sh.T = by_)
  (hopen : ∀ (fuel : Nat) (cs : List Value) (y : DataW H × List MemPlace), DataW.trod enc Tryz.prog W 0 (fun _ => true) true fuel sh.T cs = some y → ∃ z : α, sh.enc (fun b => b < W.heap.size) W z cs)
  (h : DataW.trod enc Tryz.prog W 0 (fun _ => true) true fuel t [v] = some x) (hs : (x.1.weights Tryz.prog t).all (· ≤ reachBytes) = true) :
  ∃ xs, Zs sh (fun b => b < W.heap.size) W v xs ∧ xs.length * by_ ≤ 140737488351232 := by
 rcases open_slice ht h with ⟨hcs, _⟩ | ⟨a, len, cap, m, n, D, Pl, hcs, _, hl, hm, hmm, hx, hV⟩
 ·simp only [List.cons.injEq, and_true] at hcs;subst hcs;exact ⟨[], .inl ⟨none, 0, rfl, rfl, fun _ => rfl⟩, by simp⟩
 ·simp only [List.cons.injEq, and_true] at hcs;subst hcs;have hmc : m = cap := by simpa using hmm
  subst hmc;have hex : ∀ i, i < len → ∃ z : α, ∃ cs, sh.enc (fun b => b < W.heap.size) W z cs ∧ ∀ (j : Nat) (u : Value), cs[j]? = some u → W.cell? (a.add (i * sh.size + j)) = some u := by
   intro i hi;obtain ⟨cs, h1, h2⟩ := hV i (by omega);rw [hc] at h1;obtain ⟨_, hlen, hcell⟩ := World.cells?_some h1;obtain ⟨z, hz⟩ := hopen _ _ _ h2;refine ⟨z, cs, hz, fun j u hj => ?_⟩;have hjl := (List.getElem?_eq_some_iff.1 hj).1;have := hcell j (by omega);rw [add_add] at this;rw [this]; exact hj
  obtain ⟨f, hf⟩ := choose_lt hex;subst hx;have hw : len * by_ ≤ reachBytes := by
   have h3 := (List.all_eq_true.1 hs) ((((List.range len).map D).length + ((List.range (m - len)).map fun j => D (len + j)).length) * Tryz.prog.bytesOf sh.T) (by simp [DataW.weights, ht]);rw [hby] at h3;simp only [List.length_map, List.length_range, decide_eq_true_eq] at h3;exact Nat.le_trans (Nat.mul_le_mul_right _ (by omega)) h3
  refine ⟨(List.range len).map f, ?_, by simp [reachBytes] at hw ⊢; omega⟩;by_cases h0 : len = 0
  ·subst h0;exact .inl ⟨some a, m, rfl, by simp, fun h => by cases h⟩
  ·obtain ⟨cs0, e1, e2⟩ := hf 0 (by omega);have hl0 := sh.len e1;have e3 := e2 0 cs0[0] (List.getElem?_eq_getElem (by omega));rw [Nat.zero_mul, Nat.zero_add] at e3;obtain ⟨b, off, rfl⟩ := Zgg e3;refine .inr ⟨b, off, m, ?_, by simp, by simpa using hl, fun i hi => ?_⟩
   ·rw [Zcl] at e3;exact Zv e3
   ·obtain ⟨cs, k1, k2⟩ := hf i (by simpa using hi);refine ⟨cs, by simpa using k1, fun j u hj => ?_⟩;have := k2 j u hj;rw [Zcl] at this;rw [Nat.add_assoc]; exact this
theorem Zq7 {cs : List Value} {x : DataW H × List MemPlace} (h : DataW.trod enc Tryz.prog W 0 (fun _ => true) true fuel 61 cs = some x) : ∃ (r : Rec) (u : Value), cs = [.int .i64 r.kind, .int .i64 r.key, .int .i64 r.ver, u] ∧ Bytes W u r.data := by
 obtain ⟨y0, y1, y2, y3, m, hx, hl, h0, h1, h2, h3⟩ := Go.Joins.trod_struct4 Tryz.underlying61 h;have hc4 : Tryz.prog.cellsOf 61 = 4 := by kernel_rfl
 have t0 : Tryz.prog.cellsOf 3 = 1 := by kernel_rfl
 have t1 : Tryz.prog.cellsOf 45 = 1 := by kernel_rfl
 rw [hc4] at hl
 match cs, hl with
 | [c0, c1, c2, c3], _ =>
  simp only [t0, t1, List.drop_zero, List.drop_succ_cons, List.take_succ_cons, List.take_zero] at h0 h1 h2 h3;obtain ⟨a0, e0, f0, -⟩ := DataW.trod_int Tryz.underlying3 h0;obtain ⟨a1, e1, f1, -⟩ := DataW.trod_int Tryz.underlying3 h1;obtain ⟨a2, e2, f2, -⟩ := DataW.trod_int Tryz.underlying3 h2;simp only [List.cons.injEq, and_true] at e0 e1 e2;subst e0; subst e1; subst e2;obtain ⟨l, hb⟩ := Zln h3;exact ⟨⟨a0, a1, a2, l⟩, c3, rfl, hb⟩
theorem Zrn {x : DataW H × List MemPlace} (h : DataW.trod enc Tryz.prog W 0 (fun _ => true) true fuel 58 [v] = some x) (hs : (x.1.weights Tryz.prog 58).all (· ≤ reachBytes) = true) : ∃ l, Y2 (fun b => b < W.heap.size) W v l ∧ l.length ≤ 2932031007403 := by
 obtain ⟨l, h1, h2⟩ := Zrm ⟨⟨0, 0, 0, []⟩⟩ Yo Tryz.underlying58 (by kernel_rfl) (by decide) (by_ := 48) (by kernel_rfl) (fun _ cs _ h => by
  obtain ⟨r, u, rfl, hb⟩ := Zq7 h;exact ⟨r, u, rfl, Zct hb⟩) h hs
 exact ⟨l, h1, by omega⟩
end
section
variable {H : Type} {enc : TypeId × Value → H} {W : World}
end
variable {cs : List Value} {fuel : Nat} {v : Value}
section
variable {H : Type} {enc : TypeId × Value → H} {W : World}
theorem Zfv {P : Program} {e : TypeId} : ∀ {l : List (DataW H)} {d : DataW H}, d ∈ l → ∀ n ∈ d.weights P e, n ∈ DataW.weightsAll P e l
 | c :: r, d, h, n, hn => by
  rw [DataW.weightsAll, List.mem_append];rcases List.mem_cons.1 h with rfl | h
  ·exact .inl hn
  ·exact .inr (Zfv h n hn)
theorem Zob {α : Type} (i0 : Inhabited α) (sh : Ql α) (Q : α → Prop) {t : TypeId} {fuel : Nat} {v : Value} {x : DataW H × List MemPlace} (ht : Tryz.prog.underlying t = some (.slice sh.T)) (hc : Tryz.prog.cellsOf sh.T = sh.size) (hz : 0 < sh.size) {by_ : Nat} (hby : Tryz.prog.bytesOf sh.T = by_)
  (hopen : ∀ (fuel : Nat) (cs : List Value) (y : DataW H × List MemPlace), DataW.trod enc Tryz.prog W 0 (fun _ => true) true fuel sh.T cs = some y → (y.1.weights Tryz.prog sh.T).all (· ≤ reachBytes) = true → ∃ z : α, sh.enc (fun b => b < W.heap.size) W z cs ∧ Q z)
  (h : DataW.trod enc Tryz.prog W 0 (fun _ => true) true fuel t [v] = some x) (hs : (x.1.weights Tryz.prog t).all (· ≤ reachBytes) = true) :
  ∃ xs, Zs sh (fun b => b < W.heap.size) W v xs ∧ xs.length * by_ ≤ 140737488351232 ∧ ∀ z ∈ xs, Q z := by
 rcases open_slice ht h with ⟨hcs, _⟩ | ⟨a, len, cap, m, n, D, Pl, hcs, _, hl, hm, hmm, hx, hV⟩
 ·simp only [List.cons.injEq, and_true] at hcs;subst hcs;exact ⟨[], .inl ⟨none, 0, rfl, rfl, fun _ => rfl⟩, by simp, by simp⟩
 ·simp only [List.cons.injEq, and_true] at hcs;subst hcs;have hmc : m = cap := by simpa using hmm
  subst hmc;subst hx;have hex : ∀ i, i < len → ∃ z : α, ∃ cs, (sh.enc (fun b => b < W.heap.size) W z cs ∧ Q z) ∧ ∀ (j : Nat) (u : Value), cs[j]? = some u → W.cell? (a.add (i * sh.size + j)) = some u := by
   intro i hi;obtain ⟨cs, h1, h2⟩ := hV i (by omega);rw [hc] at h1;obtain ⟨_, hlen, hcell⟩ := World.cells?_some h1;have hwt : ((D i).weights Tryz.prog sh.T).all (· ≤ reachBytes) = true := by
    rw [List.all_eq_true] at hs ⊢;intro k hk;refine hs k ?_;have := Zfv (P := Tryz.prog) (e := sh.T) (l := (List.range len).map D) (List.mem_map.2 ⟨i, List.mem_range.2 hi, rfl⟩) k hk;simp only [DataW.weights, ht];exact List.mem_cons_of_mem _ (List.mem_append_left _ this)
   obtain ⟨z, hz⟩ := hopen _ _ _ h2 hwt;refine ⟨z, cs, hz, fun j u hj => ?_⟩;have hjl := (List.getElem?_eq_some_iff.1 hj).1;have := hcell j (by omega);rw [add_add] at this;rw [this]; exact hj
  obtain ⟨f, hf⟩ := choose_lt hex;have hw : len * by_ ≤ reachBytes := by
   have h3 := (List.all_eq_true.1 hs) ((((List.range len).map D).length + ((List.range (m - len)).map fun j => D (len + j)).length) * Tryz.prog.bytesOf sh.T) (by simp [DataW.weights, ht]);rw [hby] at h3;simp only [List.length_map, List.length_range, decide_eq_true_eq] at h3;exact Nat.le_trans (Nat.mul_le_mul_right _ (by omega)) h3
  refine ⟨(List.range len).map f, ?_, by simp [reachBytes] at hw ⊢; omega, fun z hz => by
   obtain ⟨i, hi, rfl⟩ := List.mem_map.1 hz;obtain ⟨_, k1, _⟩ := hf i (List.mem_range.1 hi);exact k1.2⟩
  by_cases h0 : len = 0
  ·subst h0;exact .inl ⟨some a, m, rfl, by simp, fun h => by cases h⟩
  ·obtain ⟨cs0, e1, e2⟩ := hf 0 (by omega);have hl0 := sh.len e1.1;have e3 := e2 0 cs0[0] (List.getElem?_eq_getElem (by omega));rw [Nat.zero_mul, Nat.zero_add] at e3;obtain ⟨b, off, rfl⟩ := Zgg e3;refine .inr ⟨b, off, m, ?_, by simp, by simpa using hl, fun i hi => ?_⟩
   ·rw [Zcl] at e3;exact Zv e3
   ·obtain ⟨cs, k1, k2⟩ := hf i (by simpa using hi);refine ⟨cs, by simpa using k1.1, fun j u hj => ?_⟩;have := k2 j u hj;rw [Zcl] at this;rw [Nat.add_assoc]; exact this
theorem Zo1 {x : DataW H × List MemPlace} (h : DataW.trod enc Tryz.prog W 0 (fun _ => true) true fuel 47 cs = some x) (hs : (x.1.weights Tryz.prog 47).all (· ≤ reachBytes) = true) :
  ∃ (e : Dd) (u : Value), cs = [.int .i64 e.kind, .int .i64 e.key, .int .i64 e.num, u] ∧ Bytes W u e.data ∧ e.data.length ≤ 140737488351232 := by
 obtain ⟨y0, y1, y2, y3, m, hx, hl, h0, h1, h2, h3⟩ := Go.Joins.trod_struct4 Tryz.underlying47 h;have hc4 : Tryz.prog.cellsOf 47 = 4 := by kernel_rfl
 have t0 : Tryz.prog.cellsOf 3 = 1 := by kernel_rfl
 have t1 : Tryz.prog.cellsOf 45 = 1 := by kernel_rfl
 rw [hc4] at hl;subst hx;have hw3 : (y3.1.weights Tryz.prog 45).all (· ≤ reachBytes) = true := by
  simp only [DataW.weights, Tryz.underlying47] at hs;exact Zdi (j := 3) hs rfl rfl
 match cs, hl with
 | [c0, c1, c2, c3], _ =>
  simp only [t0, t1, List.drop_zero, List.drop_succ_cons, List.take_succ_cons, List.take_zero] at h0 h1 h2 h3;obtain ⟨a0, e0, f0, -⟩ := DataW.trod_int Tryz.underlying3 h0;obtain ⟨a1, e1, f1, -⟩ := DataW.trod_int Tryz.underlying3 h1;obtain ⟨a2, e2, f2, -⟩ := DataW.trod_int Tryz.underlying3 h2;simp only [List.cons.injEq, and_true] at e0 e1 e2;subst e0; subst e1; subst e2;obtain ⟨l, hb, hlb⟩ := Zoc h3 hw3;exact ⟨⟨a0, a1, a2, l⟩, c3, rfl, hb, hlb⟩
theorem Zf1 {x : DataW H × List MemPlace} (h : DataW.trod enc Tryz.prog W 0 (fun _ => true) true fuel 49 cs = some x) (hs : (x.1.weights Tryz.prog 49).all (· ≤ reachBytes) = true) :
  ∃ (e : Sp) (u : Value), cs = [.int .i64 e.kind, .int .i64 e.n, .int .i64 e.m, .int .i64 e.deed.kind, .int .i64 e.deed.key, .int .i64 e.deed.num, u] ∧ Bytes W u e.deed.data ∧ e.deed.data.length ≤ 140737488351232 := by
 obtain ⟨y0, y1, y2, y3, m, hx, hl, h0, h1, h2, h3⟩ := Go.Joins.trod_struct4 Tryz.underlying49 h;have hc7 : Tryz.prog.cellsOf 49 = 7 := by kernel_rfl
 have hc4 : Tryz.prog.cellsOf 47 = 4 := by kernel_rfl
 have t0 : Tryz.prog.cellsOf 3 = 1 := by kernel_rfl
 rw [hc7] at hl;subst hx;have hw3 : (y3.1.weights Tryz.prog 47).all (· ≤ reachBytes) = true := by
  simp only [DataW.weights, Tryz.underlying49] at hs;exact Zdi (j := 3) hs rfl rfl
 match cs, hl with
 | [c0, c1, c2, c3, c4, c5, c6], _ =>
  simp only [t0, hc4, List.drop_zero, List.drop_succ_cons, List.take_succ_cons, List.take_zero] at h0 h1 h2 h3;obtain ⟨a0, e0, f0, -⟩ := DataW.trod_int Tryz.underlying3 h0;obtain ⟨a1, e1, f1, -⟩ := DataW.trod_int Tryz.underlying3 h1;obtain ⟨a2, e2, f2, -⟩ := DataW.trod_int Tryz.underlying3 h2;simp only [List.cons.injEq, and_true] at e0 e1 e2;subst e0; subst e1; subst e2;obtain ⟨d, u, e3, hb, hlb⟩ := Zo1 h3 hw3;simp only [List.cons.injEq, and_true] at e3;obtain ⟨rfl, rfl, rfl, rfl⟩ := e3;exact ⟨⟨a0, a1, a2, d⟩, c6, rfl, hb, hlb⟩
theorem Zoa {x : DataW H × List MemPlace} (h : DataW.trod enc Tryz.prog W 0 (fun _ => true) true fuel 22 [v] = some x) (hs : (x.1.weights Tryz.prog 22).all (· ≤ reachBytes) = true) : ∃ l, Zak (fun b => b < W.heap.size) W v l ∧ l.length ≤ 140737488351232 ∧ ∀ z ∈ l, z.deed.data.length ≤ 140737488351232 := by
 obtain ⟨l, h1, h2, h3⟩ := Zob ⟨⟨0, 0, 0, ⟨0, 0, 0, []⟩⟩⟩ Zpx (fun z => z.deed.data.length ≤ 140737488351232) Tryz.underlying22 (by kernel_rfl) (by decide) (by_ := 72) (by kernel_rfl) (fun _ cs _ h hw => by
  obtain ⟨e, u, rfl, hb, hl⟩ := Zf1 h hw;exact ⟨e, ⟨u, rfl, Zct hb⟩, hl⟩) h hs
 exact ⟨l, h1, by omega, h3⟩
end
section
variable {H : Type} {enc : TypeId × Value → H} {W : World}
theorem Zrl {r : Reach} {b0 : Nat} {v : Value} {d : DataW H} {p : List MemPlace} (hok : Value.okWide Tryz.prog W r b0 49 v) (h : DataW.Trod enc Tryz.prog W 0 (fun _ => true) true 49 v d p)
  (hs : (d.weights Tryz.prog 49).all (· ≤ reachBytes) = true) :
  ∃ (e : Sp) (a : Option Addr) (c : Nat), v = .agg #[.int .i64 e.kind, .int .i64 e.n, .int .i64 e.m, .int .i64 e.deed.kind, .int .i64 e.deed.key, .int .i64 e.deed.num, .slice a e.deed.data.length c] ∧ Z2 (fun b => b < W.heap.size) W (.slice a e.deed.data.length c) e.deed.data ∧ e.deed.data.length ≤ 140737488351232 := by
 obtain ⟨cs, rfl, hsz⟩ := okWide_struct Tryz.underlying49 hok;obtain ⟨fuel, hf⟩ := h;obtain ⟨e, u, hcs, hb, hl⟩ := Zf1 hf hs;obtain ⟨a, c, rfl⟩ := (Zct hb).form;refine ⟨e, a, c, ?_, Zct hb, hl⟩
 congr 1
 have : cs.toList = _ := hcs;rw [← Array.toList_inj, this]
end
end Go.Proofs.YtpdnapbchcdhlacGreat
