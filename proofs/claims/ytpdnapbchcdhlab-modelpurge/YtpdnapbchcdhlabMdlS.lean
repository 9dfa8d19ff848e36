import Derived.Test.YtpdnapbchcdhlabMdlC
set_option maxHeartbeats 8000000
namespace Go.Proofs.Ytpdnapbchcdhlab
set_option maxRecDepth 100000
open Go.RowKit
open Plain Reg
def Zap : Option Nat → Int
 | none => -1
 | some i => (i : Int)
theorem Za9 (P : Rec → Bool) (l : List Rec) : decide (0 ≤ Zap (l.findIdx? P)) = l.any P := by
 cases h : l.findIdx? P with
 | none =>
  have h2 := List.findIdx?_eq_none_iff.1 h;have : l.any P = false := by rw [List.any_eq_false]; intro x hx; rw [h2 x hx]; simp
  rw [this]; rfl
 | some i =>
  obtain ⟨h2, h3, -⟩ := List.findIdx?_eq_some_iff_getElem.1 h;have : l.any P = true := by rw [List.any_eq_true]; exact ⟨l[i], List.getElem_mem h2, h3⟩
  rw [this];exact decide_eq_true (show (0 : Int) ≤ (i : Int) by omega)
theorem Vl (K : Nat) (caps : Array Value) (P : Rec → Bool) (S : Nat → Prop) (l : List Rec) (v : Value) (w : World) (hK : ∀ (args : Array Value) (w : World), (callFunc K args).run Try.prog w = .ok (.enter K args) w) (hl : Zv S w v l) (hn : l.length ≤ 1000000)
  (hc : ∀ (x : Rec) (a : Option Addr) (c : Nat) (w' : World), x ∈ l → Zi w w' → Zu S w' (.slice a x.data.length c) x.data → Calls Try.prog K (#[.agg #[.int .i64 x.kind, .int .i64 x.key, .int .i64 x.ver, .slice a x.data.length c]] ++ caps) w' fun e w2 => e = .returned (.bool (P x)) ∧ Zi w' w2) :
  Calls Try.prog 83 #[v, .func (.func K) #[] caps] w fun e w' => e = .returned (.int .i64 (Zap (l.findIdx? P))) ∧ Zi w w' := by
 obtain ⟨ao, cp, rfl⟩ := hl.form;obtain ⟨R, hR⟩ : ∃ R, R = Zap (l.findIdx? P) := ⟨_, rfl⟩;rw [← hR];have HR : Hid _ := hR;clear hR;go_enter Try.func83, Try.ntmps83;go_wp2_with fail;go_loopw [8] (fun i wr => ∃ k : Nat, k ≤ l.length ∧ i = .int .i64 k ∧ Hid (∀ x ∈ l.take k, P x = false) ∧ Zi w wr) (fun i _ => l.length - (intOf i).toNat)
 case atStart => exact ⟨0, Nat.zero_le _, rfl, (by show ∀ _, _; simp), Zi.refl _⟩
 case round =>
  obtain ⟨k, hk, rfl, HN, hg⟩ := hrel;by_cases hlt : k < l.length
  ·obtain ⟨b, off, a1, c1, hv1, q0, q1, q2, q3, hu⟩ := Yf (hl.grow hg) k hlt;cases hv1;have HM : Hid (l[k] ∈ l) := List.getElem_mem hlt;have HF : Hid (P l[k] = true → R = (k : Int)) := fun h => by rw [HR.out, Qh hlt HN.out h]; rfl
   have HT : Hid (P l[k] = false → ∀ x ∈ l.take (k + 1), P x = false) := fun h x hx => by
    rw [List.take_succ_eq_append_getElem hlt] at hx;rcases List.mem_append.1 hx with h1 | h1
    ·exact HN.out x h1
    ·rw [List.mem_singleton.1 h1]; exact h
   generalize l[k] = x at *;go_wp2_with fail;refine (hc x a1 c1 _ HM.out hg hu).mono ?_;rintro e w2 ⟨rfl, g2⟩;have gw := hg.trans g2;clear g2 hg q0 q1 q2 q3 hu;obtain ⟨B, hB⟩ : ∃ B, B = P x := ⟨_, rfl⟩;rw [← hB];have HB : Hid _ := hB;clear hB;cases B with
   | false =>
    have HT2 : Hid _ := HT.out HB.out.symm;clear HT HF HB;go_wp2_with fail;go_roundw
    case rel => exact ⟨k + 1, by omega, by go_num, HT2, gw⟩
    case measure => simp [intOf]; omega
   | true =>
    obtain rfl : R = (k : Int) := HF.out HB.out.symm;clear HT HF HB HR;go_wp2_with fail;go_ret;exact ⟨rfl, gw⟩
  ·obtain rfl : R = -1 := by rw [HR.out, Vm fun x hx => HN.out x (by rw [List.take_of_length_le (by omega)]; exact hx)]; rfl
   clear HR;go_wp2_with fail;go_ret;exact ⟨rfl, hg⟩
theorem Qg (K : Nat) (caps : Array Value) (P : Rec → Bool) (S : Nat → Prop) (l : List Rec) (v : Value) (w : World) (hK : ∀ (args : Array Value) (w : World), (callFunc K args).run Try.prog w = .ok (.enter K args) w) (hl : Zv S w v l) (hn : l.length ≤ 1000000)
  (hc : ∀ (x : Rec) (a : Option Addr) (c : Nat) (w' : World), x ∈ l → Zi w w' → Zu S w' (.slice a x.data.length c) x.data → Calls Try.prog K (#[.agg #[.int .i64 x.kind, .int .i64 x.key, .int .i64 x.ver, .slice a x.data.length c]] ++ caps) w' fun e w2 => e = .returned (.bool (P x)) ∧ Zi w' w2) :
  Calls Try.prog 59 #[v, .func (.func K) #[] caps] w fun e w' => e = .returned (.bool (l.any P)) ∧ Zi w w' := by
 rw [← Za9];obtain ⟨I, hI⟩ : ∃ I, I = Zap (l.findIdx? P) := ⟨_, rfl⟩;rw [← hI];have HI : Hid _ := hI;clear hI;go_enter Try.func59, Try.ntmps59;go_wp2_with fail;refine (Vl K caps P S l v w hK hl hn hc).mono ?_;rw [← HI.out];rintro e w1 ⟨rfl, g1⟩;clear hl hc HI;go_wp2_with fail;go_ret;exact ⟨rfl, g1⟩
theorem Vw (args : Array Value) (w : World) : (callFunc 84 args).run Try.prog w = .ok (.enter 84 args) w := by
 simp [callFunc, Try.func84, Try.f84, mark]
theorem Kl (args : Array Value) (w : World) : (callFunc 60 args).run Try.prog w = .ok (.enter 60 args) w := by
 simp [callFunc, Try.func60, Try.f60, mark]
theorem Ju (x r : Rec) (a b : Option Addr) (c d : Nat) (g : Nat) (w : World) (hx : Bytes w (.slice a x.data.length c) x.data) (hr : Bytes w (.slice b r.data.length d) r.data) (hp : w.heap[g]? = some (.cells #[.int .i64 r.kind, .int .i64 r.key, .int .i64 r.ver, .slice b r.data.length d] 33 (0, 0))) :
  Calls Try.prog 84 #[.agg #[.int .i64 x.kind, .int .i64 x.key, .int .i64 x.ver, .slice a x.data.length c], .pointer (some ⟨g, 0, none⟩)] w fun e w' => e = .returned (.bool (Ye x r)) ∧ Zi w w' := by
 have g0 := Ze w (.cells #[.int .i64 x.kind, .int .i64 x.key, .int .i64 x.ver, .slice a x.data.length c] 33);have hp1 := (g0.block _ (Zf hp)).trans hp;obtain ⟨y0, y1, y2, y3⟩ := Yt hp1 rfl rfl rfl rfl;have hxx := Zo hx g0;have hr1 := Zo hr g0;clear hp hp1 hx hr;go_enter Try.func84, Try.ntmps84;go_wp2_with fail;refine (Zax _ _ _ _ _ _ x.data r.data _ _ _ hxx hr1).mono ?_;rintro e w1 ⟨rfl, g1⟩;have gE := g0.trans g1;clear y0 y1 y2 y3 hxx hr1 g0 g1;go_wp2_with fail;go_ret;exact ⟨rfl, gE⟩
theorem Zaw (S : Nat → Prop) (l : List Rec) (r : Rec) (v : Value) (b : Option Addr) (d : Nat) (w : World) (hl : Zv S w v l) (hn : l.length ≤ 1000000) (hr : Bytes w (.slice b r.data.length d) r.data) :
  Calls Try.prog 61 #[v, .agg #[.int .i64 r.kind, .int .i64 r.key, .int .i64 r.ver, .slice b r.data.length d]] w fun e w' => e = .returned (.bool (Yu l r)) ∧ Zi w w' := by
 obtain ⟨ao, cp, rfl⟩ := hl.form;have g0 := Ze w (.cells #[.int .i64 r.kind, .int .i64 r.key, .int .i64 r.ver, .slice b r.data.length d] 33);have hp := Zs w #[.int .i64 r.kind, .int .i64 r.key, .int .i64 r.ver, .slice b r.data.length d] 33;go_enter Try.func61, Try.ntmps61;go_wp2_with fail;refine (Qg 84 #[.pointer (some ⟨w.heap.size, 0, none⟩)] (fun x => Ye x r) S l _ _ Vw (hl.grow g0) hn (fun x a c w' _ hg hx => Ju x r a b c d _ w' hx.p (Zo hr (g0.trans hg)) ((hg.block _ (Zf hp)).trans hp))).mono ?_;rintro e w1 ⟨rfl, g1⟩;have gE := g0.trans g1;have HA : Hid ((l.any fun x => Ye x r) = Yu l r) := rfl;rw [HA.out];clear g0 g1 hp hl hr;go_wp2_with fail;go_ret;exact ⟨rfl, gE⟩
theorem Zaa (S : Nat → Prop) (t : List Rec) (x : Rec) (a b : Option Addr) (c d : Nat) (g : Nat) (w : World) (hl : Zv S w (.slice b t.length d) t) (hn : t.length ≤ 1000000) (hx : Bytes w (.slice a x.data.length c) x.data) (hp : w.heap[g]? = some (.cells #[.slice b t.length d] 45 (0, 0))) :
  Calls Try.prog 60 #[.agg #[.int .i64 x.kind, .int .i64 x.key, .int .i64 x.ver, .slice a x.data.length c], .pointer (some ⟨g, 0, none⟩)] w fun e w' => e = .returned (.bool (!Yu t x)) ∧ Zi w w' := by
 have g0 := Ze w (.cells #[.int .i64 x.kind, .int .i64 x.key, .int .i64 x.ver, .slice a x.data.length c] 33);have hp1 := (g0.block _ (Zf hp)).trans hp;have y0 := Zp hp1 0 _ rfl;have hxx := Zo hx g0;have hl1 := hl.grow g0;clear hp hp1 hx hl;go_enter Try.func60, Try.ntmps60;go_wp2_with fail;refine (Zaw S t x _ _ _ _ hl1 hn hxx).mono ?_;rintro e w1 ⟨rfl, g1⟩;have gE := g0.trans g1;clear y0 hxx hl1 g0 g1;go_wp2_with fail;go_ret;exact ⟨rfl, gE⟩
theorem Kx (p : Rec → Bool) (l : List Rec) : (!l.any fun x => !p x) = l.all p := by
 induction l with
 | nil => rfl
 | cons x l ih => simp only [List.any_cons, List.all_cons, ← ih]; cases p x <;> simp
theorem Zal (S S' : Nat → Prop) (s t : List Rec) (v u : Value) (w : World) (hs : Zv S w v s) (ht : Zv S' w u t) (hm : s.length ≤ 1000000) (hn : t.length ≤ 1000000) :
  Calls Try.prog 25 #[v, u] w fun e w' => e = .returned (.bool (Y3 s t)) ∧ Zi w w' := by
 obtain ⟨ao, ca, rfl⟩ := hs.form;obtain ⟨bo, cb, rfl⟩ := ht.form;have g0 := Ze w (.cells #[.slice bo t.length cb] 45);have hp := Zs w #[.slice bo t.length cb] 45;obtain ⟨R, hR⟩ : ∃ R, R = Y3 s t := ⟨_, rfl⟩;rw [← hR];have HR : Hid _ := hR;clear hR;by_cases he : s.length = t.length
 ·have d0 : ((s.length : Int) != (t.length : Int)) = false := by simp [he]
  have HR2 : Hid (R = !s.any fun x => !Yu t x) := by show _ = _; rw [HR.out]; unfold Y3; rw [decide_eq_true he, Bool.and_true, Kx]
  clear he HR;go_enter Try.func25, Try.ntmps25;go_wp2_with fail;refine (Qg 60 #[.pointer (some ⟨w.heap.size, 0, none⟩)] (fun x => !Yu t x) S s _ _ Kl (hs.grow g0) hm (fun x a c w' _ hg hx => Zaa S' t x a bo c cb _ w' (ht.grow (g0.trans hg)) hn hx.p ((hg.block _ (Zf hp)).trans hp))).mono ?_;rintro e w1 ⟨rfl, g1⟩;have gE := g0.trans g1;clear g0 g1 hp hs ht;generalize (s.any fun x => !Yu t x) = A at *;obtain rfl := HR2.out;clear HR2;go_wp2_with fail;go_ret;exact ⟨rfl, gE⟩
 ·have d0 : ((s.length : Int) != (t.length : Int)) = true := by simp; omega
  obtain rfl : R = false := by rw [HR.out]; unfold Y3; rw [decide_eq_false he, Bool.and_false]
  clear he HR;go_enter Try.func25, Try.ntmps25;go_wp2_with fail;go_ret;exact ⟨rfl, g0⟩
theorem Jn : Vn := fun S S' s t v u w h1 h2 hs ht => Zal S S' s t v u w hs ht (by have := ((Yk s).1 h1).2; omega) (by have := ((Yk t).1 h2).2; omega)
end Go.Proofs.Ytpdnapbchcdhlab
