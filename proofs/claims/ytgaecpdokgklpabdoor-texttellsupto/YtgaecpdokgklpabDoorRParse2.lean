/-
  What the document's Parse reads of a text: a deed, or an error.
  Condition: the text has at most 1048576 bytes; strconv's Itoa and Atoi answer as they should (premises).
-/
import Derived.Test.YtgaecpdokgklpabDoorRParse
namespace Go.Proofs.YtgaecpdokgklpabDoor
set_option maxRecDepth 100000
open Go.RowKit
open Go.Proofs.YtgaecpdokgklpabDoor.Plain Go.Proofs.YtgaecpdokgklpabDoor.Reg

abbrev zeroD : Obj := .cells #[.int .i64 0, .int .i64 0, .int .i64 0, .slice none 0 0] 24 (0, 0)
def ParQ (p : Dd × Int) (r : Ending) (w : World) : Prop := ∃ v, r = .returned v ∧ DeedQ p v w
/-- What holds while the text is parted. -/
def PartJ (s : List UInt8) (k : Nat) (fv : Value) (ws : List (List UInt8)) : Prop := (k ≤ s.length ∧ ∃ f : Nat, fv = .int .i64 (f : Int) ∧ Parted s k f ws) ∨ (k = s.length + 1 ∧ ws = wordsB s)


/-! ### What words come to -/

def kindAt (w0 : List UInt8) (k : Nat) : Int := if w0 = wPut ∧ 1 < k then 1 else if w0 = wDelete ∧ 2 < k then 2 else if w0 = wPurge ∧ 3 < k then 3 else 0
/-- What so many words behind the kind's come to. -/
def readTo (K : Int) : List (List UInt8) → Option Dd
 | [] => some ⟨K, 0, 0, []⟩
 | [a] => (numW a).bind fun k => some ⟨K, k, 0, []⟩
 | a :: b :: _ => (numW a).bind fun k => if K = 1 then (dataR b).bind fun l => some ⟨K, k, 0, l⟩ else (numW b).bind fun n => some ⟨K, k, n, []⟩
def parsedOf : Option Dd → Dd × Int
 | some d => if wrongD d = 0 then (d, 0) else (noDd, wrongD d)
 | none => (noDd, 2)
def twoOf (K : Int) : List (List UInt8) → Dd × Int
 | [a, b] => parsedOf (readTo K [a, b])
 | _ => (noDd, 2)
def oneOf : List (List UInt8) → Dd × Int
 | [a] => parsedOf (readTo 2 [a])
 | _ => (noDd, 2)
theorem bytes_none (w : World) : Bytes w (.slice none 0 0) [] := (show BytesS (fun _ => True) w (.slice none 0 0) [] from .inl ⟨none, 0, rfl, rfl, fun _ => rfl⟩).p
theorem bytes_zero {a : Option Addr} {c : Nat} (w : World) (h : a = none → c = 0) : Bytes w (.slice a 0 c) [] := .inl ⟨a, c, rfl, rfl, h⟩
theorem bytes_zcap {w : World} {a : Option Addr} {c : Nat} (h : Bytes w (.slice a 0 c) []) : a = none → c = 0 := by
 rcases h with ⟨ao, cap, h1, _, h2⟩ | ⟨b, off, cap, h1, _⟩
 ·cases h1; exact h2
 ·cases h1; intro h; cases h
theorem words_cons (s : List UInt8) : ∃ w0 rest, wordsB s = w0 :: rest := by
 cases h : wordsB s with
 | nil => exact absurd h (words_ne s)
 | cons a r => exact ⟨a, r, rfl⟩
theorem parse_none {s w0 : List UInt8} {rest : List (List UInt8)} (h : wordsB s = w0 :: rest) (h1 : w0 ≠ wPut) (h2 : w0 ≠ wDelete) (h3 : w0 ≠ wPurge) : parseD s = (noDd, 1) := by
 have hs : saidD (wordsB s) = (none, 1) := by
  rw [h]; unfold saidD
  simp only [List.head?_cons, Option.some.injEq]
  rw [if_neg h1, if_neg h2, if_neg h3]
 unfold parseD; rw [hs]
theorem parse_two {s w0 : List UInt8} {rest : List (List UInt8)} (h : wordsB s = w0 :: rest) (K : Int) (hK : w0 = wPut ∧ K = 1 ∨ w0 = wPurge ∧ K = 3) : parseD s = twoOf K rest := by
 unfold parseD
 rw [h]
 unfold saidD
 simp only [List.head?_cons, Option.some.injEq, List.tail_cons]
 rcases hK with ⟨rfl, rfl⟩ | ⟨rfl, rfl⟩
 ·rw [if_pos rfl]
  match rest with
  | [] => rfl
  | [a] => rfl
  | [a, b] =>
   simp only [twoOf, readTo]
   cases numW a with
   | none => rfl
   | some k =>
    cases dataR b with
    | none => rfl
    | some l => rfl
  | a :: b :: c :: r => rfl
 ·rw [if_neg (by decide), if_neg (by decide), if_pos rfl]
  match rest with
  | [] => rfl
  | [a] => rfl
  | [a, b] =>
   simp only [twoOf, readTo]
   cases numW a with
   | none => rfl
   | some k =>
    cases numW b with
    | none => rfl
    | some l => rfl
  | a :: b :: c :: r => rfl
theorem parse_one {s : List UInt8} {rest : List (List UInt8)} (h : wordsB s = wDelete :: rest) : parseD s = oneOf rest := by
 unfold parseD
 rw [h]
 unfold saidD
 simp only [List.head?_cons, Option.some.injEq, List.tail_cons]
 rw [if_neg (by decide), if_pos trivial]
 match rest with
 | [] => rfl
 | [a] =>
  simp only [oneOf, readTo]
  cases numW a with
  | none => rfl
  | some k => rfl
 | a :: b :: r => rfl
theorem bytes_deed {w w2 : World} {g : Nat} {x0 x1 x2 : Int} {a : Option Addr} {n c : Nat} {T : TypeId} {v : Value} {l : List UInt8} (h : Bytes w v l) (hg : w.heap[g]? = some (.cells #[.int .i64 x0, .int .i64 x1, .int .i64 x2, .slice a n c] T (0, 0))) (hb : GrowBut g w w2) : Bytes w2 v l := by
 rcases h with h | ⟨b, off, cap, rfl, h1, hc⟩
 ·exact .inl h
 ·refine .inr ⟨b, off, cap, rfl, h1, fun i hi => ?_⟩
  have h2 := hc i hi
  by_cases e : b = g
  ·exfalso
   subst e
   rw [cell_of_row w b (off + i) _ T (0, 0) hg] at h2
   match hj : off + i, h2 with
   | 0, h2 => simp at h2
   | 1, h2 => simp at h2
   | 2, h2 => simp at h2
   | 3, h2 => simp at h2
   | j + 4, h2 => simp at h2
  ·exact (hb.cell (cell_lt h2) e).trans h2
theorem words_len : ∀ (s : List UInt8), ∀ x ∈ wordsB s, x.length ≤ s.length
 | [], x, h => by
  unfold wordsB at h
  rw [List.mem_singleton.1 h]; exact Nat.le_refl _
 | c :: s, x, h => by
  have ih := words_len s
  unfold wordsB at h
  by_cases hc : c = 32
  ·rw [if_pos hc] at h
   rcases List.mem_cons.1 h with rfl | h
   ·exact Nat.zero_le _
   ·have := ih x h; simp; omega
  ·rw [if_neg hc] at h
   cases hw : wordsB s with
   | nil => exact absurd hw (words_ne s)
   | cons v vs =>
    rw [hw] at h ih
    rcases List.mem_cons.1 h with rfl | h
    ·have := ih v (by simp); simp; omega
    ·have := ih x (by simp [h]); simp; omega
theorem unhex_len : ∀ (w l : List UInt8), unhex w = some l → l.length ≤ w.length
 | [], l, h => by unfold unhex at h; cases h; exact Nat.le_refl _
 | [_], l, h => by unfold unhex at h; cases h
 | a :: b :: r, l, h => by
  unfold unhex at h
  split at h
  ·rename_i x y t hx hy ht
   cases h
   have := unhex_len r t ht
   simp; omega
  ·cases h
theorem dataR_len {w l : List UInt8} (h : dataR w = some l) : l.length ≤ w.length := by
 unfold dataR at h
 split at h
 ·cases h; exact Nat.zero_le _
 ·split at h
  ·cases h
  ·exact unhex_len w l h
theorem num_yes {w : List UInt8} {n : Int} (h : Lib.atoiAll w = .ok n) (h2 : Lib.itoa n = w) : numW w = some n := by unfold numW; rw [h]; exact if_pos h2
theorem num_unlike {w : List UInt8} {n : Int} (h : Lib.atoiAll w = .ok n) (h2 : Lib.itoa n ≠ w) : numW w = none := by unfold numW; rw [h]; exact if_neg h2
theorem num_no {w : List UInt8} (h : ∀ v, Lib.atoiAll w ≠ .ok v) : numW w = none := by
 unfold numW
 cases hw : Lib.atoiAll w with
 | ok v => exact absurd hw (h v)
 | _ => rfl
theorem slice_capw {S : Nat → Prop} {w : World} {ao : Option Addr} {n cap : Nat} {xs : List (List UInt8)} (h : SliceS strShape S w (.slice ao n cap) xs) : xs.length ≤ cap := by
 rcases h with ⟨_, _, _, rfl, _⟩ | ⟨_, _, _, _, h2, h3, _⟩
 ·simp
 ·cases h2; exact h3
theorem words_at {S : Nat → Prop} {w : World} {ao : Option Addr} {n cap : Nat} {ws : List (List UInt8)} (h : SliceS strShape S w (.slice ao n cap) ws) (i : Nat) (hi : i < ws.length) : ∃ b off, ao = some ⟨b, off, none⟩ ∧ w.cell? ⟨b, off + i, none⟩ = some (.string ⟨ws[i].toArray⟩) := by
 obtain ⟨b, off, rfl, _, cs, rfl, hc⟩ := h.at i hi
 refine ⟨b, off, rfl, ?_⟩
 have := hc 0 _ rfl
 simpa [strShape] using this

set_option maxHeartbeats 40000000 in
theorem rparse_any (V : World → Prop) (hV : ∀ w w', V w → Grow w w' → V w') (IT : ItoaC V) (AT : AtoiC V) (s : List UInt8) (w : World) (hw : V w) (hs : s.length ≤ 1048576) :
  Calls Tryd.prog 7 #[.string ⟨s.toArray⟩] w fun r w' => ParQ (parseD s) r w' ∧ Grow w w' := by
 obtain ⟨i0, hif, hz0, hz1, hz2⟩ := info_parts info_str
 have g0 := grow_alloc w zeroD
 have hZ0 := heap_new w #[.int .i64 0, .int .i64 0, .int .i64 0, .slice none 0 0] 24
 obtain ⟨PD, hPD⟩ : ∃ PD, PD = parseD s := ⟨_, rfl⟩
 rw [← hPD]
 have HPD : Hid _ := hPD
 clear hPD
 go_enter Tryd.func7, Tryd.ntmps7
 go_wp2_with fail
 generalize World.alloc w _ = W at *
 go_loopw [5, 6, 21] (fun lv fv i wr => ∃ (k : Nat) (ws : List (List UInt8)) (css : List (List Value)), i = .int .i64 (k : Int) ∧ ws.length ≤ k ∧ k ≤ s.length + 1 ∧ PartJ s k fv ws ∧ OutR strShape (fun _ => False) (w.heap.size + 1) lv ws css wr ∧ Grow w wr ∧ wr.heap[w.heap.size]? = some zeroD) (fun _ _ i _ => s.length + 1 - (intOf i).toNat)
 case atStart => exact ⟨0, [], [], rfl, Nat.zero_le _, by omega, .inl ⟨Nat.zero_le _, 0, rfl, part_start s⟩, OutR.nil _ _ _ _, g0, hZ0⟩
 case round =>
  clear g0 hZ0
  obtain ⟨k, ws, css, rfl, hwl, hk1, hJ, hR, hg, hZ⟩ := hrel
  obtain ⟨al, cl, rfl⟩ := hR.form
  rcases hJ with ⟨hk, f, rfl, hP⟩ | ⟨hkE, hwd⟩
  ·have HP : Hid (Parted s k f ws) := hP
   have hfk : f ≤ k := hP.1
   clear hP
   have hc := cut_bytes s f k
   have HSZ : Hid (w.heap.size + 1 ≤ wr.heap.size) := heap_lt hZ
   obtain ⟨pw, hpw⟩ : ∃ pw, pw = (s.drop f).take (k - f) := ⟨_, rfl⟩
   rw [← hpw] at hc
   have HPW : Hid _ := hpw
   clear hpw
   have hnew : ∀ (j : Nat) u, ([.string ⟨pw.toArray⟩] : List Value)[j]? = some u → (wr.alloc (.cells #[.string ⟨pw.toArray⟩] 9)).cell? ((⟨wr.heap.size, 0, none⟩ : Addr).add j) = some u := by
    intro j u hj
    match j, hj with
    | 0, hj => simp at hj; subst hj; simp [Addr.add]
    | j + 1, hj => simp at hj
   by_cases hkl : k < s.length
   ·have d0 : ((k : Int) == (s.length : Int)) = false := by simp; omega
    by_cases hb : s[k] = 32
    ·have HN : Hid (PartJ s (k + 1) (.int .i64 ((k + 1 : Nat) : Int)) (ws ++ [pw])) := .inl ⟨hkl, k + 1, rfl, by rw [HPW.out]; exact part_blank HP.out hkl hb⟩
     have d1 : (((ByteArray.mk s.toArray)[k]'hkl).toNat : Int) = 32 := by
      show ((s[k]).toNat : Int) = 32
      rw [hb]; rfl
     clear hb HP
     go_wp2_with (at_builtin; refine wpList_append_own _ rfl (.tmp 34) (.tmp 39) 33 rfl (w.heap.size + 1) 9 i0 (.string ⟨#[]⟩) 1 16 Tryd.underlying33 hif hz0 hz1 hz2 rfl (by decide) (.slice al ws.length cl) _ _ rfl (hR.row.alloc _) ⟨wr.heap.size, 0, none⟩ 1 1 [.string ⟨pw.toArray⟩] rfl rfl hnew (by intro u hu; simp at hu; subst hu; rfl) (by unfold maxLen; omega) (by omega) (by have := HSZ.out; simp; omega) ?_; intro v4 w4 hown4 hgrow4 _; have hR6 := hR.step (x := pw) (by decide) (fun b h => h.elim) rfl hgrow4 hown4; have g6 : Grow w w4 := grow_of_grown (hg.trans (grow_alloc _ _)) hgrow4 (fun k hk => by have := (hR.row.lt k hk).1; omega); have hZ6 := (grown_keep hR.row hgrow4 (row_lt hR.row (by omega)) (heap_lt hZ)).trans hZ; have hsl := own_slice hown4; obtain ⟨a4, c4, hv4⟩ := hsl; subst hv4; clear hgrow4 hown4 hR hnew hg hZ)
     go_roundw
     case rel => exact ⟨k + 1, ws ++ [pw], _, by go_num, by simp; omega, by omega, HN.out, hR6, g6, hZ6⟩
     case measure => simp [intOf]; omega
    ·have HN : Hid (PartJ s (k + 1) (.int .i64 (f : Int)) ws) := .inl ⟨hkl, f, rfl, part_on HP.out hkl hb⟩
     have d1 : ((((ByteArray.mk s.toArray)[k]'hkl).toNat : Int) == 32) = false := by
      show (((s[k]).toNat : Int) == 32) = false
      simp only [beq_eq_false_iff_ne]
      intro e
      exact hb (UInt8.toNat_inj.1 (by show s[k].toNat = 32; omega))
     clear hb HP
     go_wp2_with fail
     go_roundw
     case rel => exact ⟨k + 1, ws, css, by go_num, by omega, by omega, HN.out, hR, hg, hZ⟩
     case measure => simp [intOf]; omega
   ·have d0 : ((k : Int) == (s.length : Int)) = true := by simp; omega
    have HN : Hid (PartJ s (k + 1) (.int .i64 ((k + 1 : Nat) : Int)) (ws ++ [pw])) := .inr (by
     obtain rfl : k = s.length := by omega
     exact ⟨rfl, by rw [HPW.out]; exact (part_end HP.out).symm⟩)
    clear HP
    go_wp2_with (at_builtin; refine wpList_append_own _ rfl (.tmp 34) (.tmp 39) 33 rfl (w.heap.size + 1) 9 i0 (.string ⟨#[]⟩) 1 16 Tryd.underlying33 hif hz0 hz1 hz2 rfl (by decide) (.slice al ws.length cl) _ _ rfl (hR.row.alloc _) ⟨wr.heap.size, 0, none⟩ 1 1 [.string ⟨pw.toArray⟩] rfl rfl hnew (by intro u hu; simp at hu; subst hu; rfl) (by unfold maxLen; omega) (by omega) (by have := HSZ.out; simp; omega) ?_; intro v4 w4 hown4 hgrow4 _; have hR6 := hR.step (x := pw) (by decide) (fun b h => h.elim) rfl hgrow4 hown4; have g6 : Grow w w4 := grow_of_grown (hg.trans (grow_alloc _ _)) hgrow4 (fun k hk => by have := (hR.row.lt k hk).1; omega); have hZ6 := (grown_keep hR.row hgrow4 (row_lt hR.row (by omega)) (heap_lt hZ)).trans hZ; have hsl := own_slice hown4; obtain ⟨a4, c4, hv4⟩ := hsl; subst hv4; clear hgrow4 hown4 hR hnew hg hZ)
    go_roundw
    case rel => exact ⟨k + 1, ws ++ [pw], _, by go_num, by simp; omega, by omega, HN.out, hR6, g6, hZ6⟩
    case measure => simp [intOf]; omega
  ·have HWD : Hid (ws = wordsB s) := hwd
   have hk2 : s.length + 1 ≤ k := by omega
   clear hwd hkE
   obtain ⟨kE, rfl⟩ : ∃ kE : Nat, kE = k := ⟨_, rfl⟩
   obtain ⟨w0, rest, hws⟩ := words_cons s
   have HWS : Hid (wordsB s = w0 :: rest) := hws
   have hwr : ws = w0 :: rest := by rw [HWD.out, hws]
   subst hwr
   clear hws HWD
   have hL := hR.slice
   have hcl0 := hR.row
   obtain ⟨b, off, hal, q0⟩ := words_at hL 0 (by simp)
   subst hal
   have hq0 : wr.cell? ⟨b, off, none⟩ = some (.string ⟨w0.toArray⟩) := q0
   have g2 := grow_alloc2 wr (.cells #[.int .i64 0, .int .i64 0, .int .i64 0, .slice none 0 0] 24) (.cells #[.string ⟨#[]⟩, .string ⟨#[112, 117, 116]⟩, .string ⟨#[100, 101, 108, 101, 116, 101]⟩, .string ⟨#[112, 117, 114, 103, 101]⟩] 9)
   have hD0 := heap_new wr #[.int .i64 0, .int .i64 0, .int .i64 0, .slice none 0 0] 24
   have hS0 := heap_new (wr.alloc (.cells #[.int .i64 0, .int .i64 0, .int .i64 0, .slice none 0 0] 24)) #[.string ⟨#[]⟩, .string ⟨#[112, 117, 116]⟩, .string ⟨#[100, 101, 108, 101, 116, 101]⟩, .string ⟨#[112, 117, 114, 103, 101]⟩] 9
   have hD1 := ((grow_alloc (wr.alloc (.cells #[.int .i64 0, .int .i64 0, .int .i64 0, .slice none 0 0] 24)) (.cells #[.string ⟨#[]⟩, .string ⟨#[112, 117, 116]⟩, .string ⟨#[100, 101, 108, 101, 116, 101]⟩, .string ⟨#[112, 117, 114, 103, 101]⟩] 9)).block _ (heap_lt hD0)).trans hD0
   rw [World.size_alloc] at hS0
   clear hD0 q0 hcl0 hR
   go_wp2_with fail
   generalize World.alloc (World.alloc wr _) _ = W2 at *
   obtain ⟨gd, hgd⟩ : ∃ gd, gd = wr.heap.size := ⟨_, rfl⟩
   have HGD : Hid (gd = wr.heap.size) := hgd
   rw [← hgd] at hD1 hS0 ⊢
   clear hgd
   obtain ⟨W1, rfl⟩ : ∃ W1 : World, W1 = wr := ⟨_, rfl⟩
   go_loopw [47] (fun i wq => ∃ (k : Nat) (K : Int), k ≤ 4 ∧ i = .int .i64 (k : Int) ∧ Hid (K = kindAt w0 k) ∧ wq.heap[gd]? = some (.cells #[.int .i64 K, .int .i64 0, .int .i64 0, .slice none 0 0] 24 (0, 0)) ∧ wq.heap[gd + 1]? = some (.cells #[.string ⟨#[]⟩, .string ⟨#[112, 117, 116]⟩, .string ⟨#[100, 101, 108, 101, 116, 101]⟩, .string ⟨#[112, 117, 114, 103, 101]⟩] 9 (0, 0)) ∧ Grow W1 wq) (fun i _ => 4 - (intOf i).toNat)
   case atStart => exact ⟨0, 0, by omega, rfl, (by show (0 : Int) = kindAt w0 0; simp [kindAt]), hD1, hS0, g2⟩
   case round =>
    clear hD1 hS0 g2
    obtain ⟨k, K, hk, rfl, HK, hD, hS, hgq⟩ := hrel
    have hq := (Below.cell hgq (cell_lt hq0)).trans hq0
    by_cases hk4 : k < 4
    ·have hk5 : k = 0 ∨ k = 1 ∨ k = 2 ∨ k = 3 := by omega
     obtain ⟨s0, s1, s2, s3⟩ := box4 hS rfl rfl rfl rfl
     rcases hk5 with rfl | rfl | rfl | rfl
     ·have HK2 : Hid (K = kindAt w0 (0 + 1)) := by show _ = _; rw [HK.out]; simp [kindAt]
      clear HK hk4
      go_wp2_with fail
      go_roundw
      case rel => exact ⟨0 + 1, K, by omega, by go_num, HK2, hD, hS, hgq⟩
      case measure => simp [intOf]
     ·by_cases e1 : w0 = wPut
      ·have HK2 : Hid ((1 : Int) = kindAt w0 (1 + 1)) := by show _ = _; simp [kindAt, e1]
       have dA : (([112, 117, 116] : List UInt8) == w0) = true := by rw [e1]; rfl
       clear HK hk4 e1
       have f0 := box_frozen hD 0
       have y0 := box_cell hD 0 _ rfl
       have hD2 : (wr.setCell ⟨gd, 0, none⟩ (.int .i64 1)).heap[gd]? = some (.cells #[.int .i64 1, .int .i64 0, .int .i64 0, .slice none 0 0] 24 (0, 0)) := heap_set hD 0 _
       have hS2 : (wr.setCell ⟨gd, 0, none⟩ (.int .i64 1)).heap[gd + 1]? = _ := (((GrowBut.refl gd wr).set 0 none (.int .i64 1)).block _ (heap_lt hS) (by omega)).trans hS
       have g3 := grow_set hgq (a := ⟨gd, 0, none⟩) (by rw [HGD.out]; exact Nat.le_refl _) (.int .i64 1)
       go_wp2_with fail
       go_roundw
       case rel => exact ⟨1 + 1, 1, by omega, by go_num, HK2, hD2, hS2, g3⟩
       case measure => simp [intOf]
      ·have HK2 : Hid (K = kindAt w0 (1 + 1)) := by show _ = _; rw [HK.out]; simp [kindAt, e1]
       have dA : (([112, 117, 116] : List UInt8) == w0) = false := by simp; exact fun h => e1 h.symm
       clear HK hk4 e1
       go_wp2_with fail
       go_roundw
       case rel => exact ⟨1 + 1, K, by omega, by go_num, HK2, hD, hS, hgq⟩
       case measure => simp [intOf]
     ·by_cases e1 : w0 = wDelete
      ·have HK2 : Hid ((2 : Int) = kindAt w0 (2 + 1)) := by show _ = _; simp [kindAt, e1, wPut, wDelete]
       have dA : (([100, 101, 108, 101, 116, 101] : List UInt8) == w0) = true := by rw [e1]; rfl
       clear HK hk4 e1
       have f0 := box_frozen hD 0
       have y0 := box_cell hD 0 _ rfl
       have hD2 : (wr.setCell ⟨gd, 0, none⟩ (.int .i64 2)).heap[gd]? = some (.cells #[.int .i64 2, .int .i64 0, .int .i64 0, .slice none 0 0] 24 (0, 0)) := heap_set hD 0 _
       have hS2 : (wr.setCell ⟨gd, 0, none⟩ (.int .i64 2)).heap[gd + 1]? = _ := (((GrowBut.refl gd wr).set 0 none (.int .i64 2)).block _ (heap_lt hS) (by omega)).trans hS
       have g3 := grow_set hgq (a := ⟨gd, 0, none⟩) (by rw [HGD.out]; exact Nat.le_refl _) (.int .i64 2)
       go_wp2_with fail
       go_roundw
       case rel => exact ⟨2 + 1, 2, by omega, by go_num, HK2, hD2, hS2, g3⟩
       case measure => simp [intOf]
      ·have HK2 : Hid (K = kindAt w0 (2 + 1)) := by show _ = _; rw [HK.out]; simp [kindAt, e1]
       have dA : (([100, 101, 108, 101, 116, 101] : List UInt8) == w0) = false := by simp; exact fun h => e1 h.symm
       clear HK hk4 e1
       go_wp2_with fail
       go_roundw
       case rel => exact ⟨2 + 1, K, by omega, by go_num, HK2, hD, hS, hgq⟩
       case measure => simp [intOf]
     ·by_cases e1 : w0 = wPurge
      ·have HK2 : Hid ((3 : Int) = kindAt w0 (3 + 1)) := by show _ = _; simp [kindAt, e1, wPut, wDelete, wPurge]
       have dA : (([112, 117, 114, 103, 101] : List UInt8) == w0) = true := by rw [e1]; rfl
       clear HK hk4 e1
       have f0 := box_frozen hD 0
       have y0 := box_cell hD 0 _ rfl
       have hD2 : (wr.setCell ⟨gd, 0, none⟩ (.int .i64 3)).heap[gd]? = some (.cells #[.int .i64 3, .int .i64 0, .int .i64 0, .slice none 0 0] 24 (0, 0)) := heap_set hD 0 _
       have hS2 : (wr.setCell ⟨gd, 0, none⟩ (.int .i64 3)).heap[gd + 1]? = _ := (((GrowBut.refl gd wr).set 0 none (.int .i64 3)).block _ (heap_lt hS) (by omega)).trans hS
       have g3 := grow_set hgq (a := ⟨gd, 0, none⟩) (by rw [HGD.out]; exact Nat.le_refl _) (.int .i64 3)
       go_wp2_with fail
       go_roundw
       case rel => exact ⟨3 + 1, 3, by omega, by go_num, HK2, hD2, hS2, g3⟩
       case measure => simp [intOf]
      ·have HK2 : Hid (K = kindAt w0 (3 + 1)) := by show _ = _; rw [HK.out]; simp [kindAt, e1]
       have dA : (([112, 117, 114, 103, 101] : List UInt8) == w0) = false := by simp; exact fun h => e1 h.symm
       clear HK hk4 e1
       go_wp2_with fail
       go_roundw
       case rel => exact ⟨3 + 1, K, by omega, by go_num, HK2, hD, hS, hgq⟩
       case measure => simp [intOf]
    ·have HK4 : Hid (K = kindAt w0 4) := by show _ = _; rw [HK.out, show k = 4 by omega]
     have hZq := (hgq.block _ (heap_lt hZ)).trans hZ
     have gw := hg.trans hgq
     have y0 := box_cell hD 0 _ rfl
     have en := enters_no
     clear HK hS
     by_cases e1 : w0 = wPut
     ·obtain rfl : K = 1 := by rw [HK4.out]; simp [kindAt, e1]
      have HT : Hid (PD = twoOf 1 rest) := by show _ = _; rw [HPD.out]; exact parse_two HWS.out 1 (.inl ⟨e1, rfl⟩)
      clear e1 HK4 HPD
      by_cases hc : rest.length = 2
      ·obtain ⟨wa, wb, rfl⟩ : ∃ wa wb, rest = [wa, wb] := by
        match rest, hc with
        | [x, y], _ => exact ⟨x, y, rfl⟩
       obtain ⟨b1, o1, e1, qa0⟩ := words_at hL 1 (by simp)
       cases e1
       have qa1 : W1.cell? ⟨b, off + 1, none⟩ = some (.string ⟨wa.toArray⟩) := qa0
       obtain ⟨b1, o1, e1, qb0⟩ := words_at hL 2 (by simp)
       cases e1
       have qb1 : W1.cell? ⟨b, off + 2, none⟩ = some (.string ⟨wb.toArray⟩) := qb0
       have hcap : 3 ≤ cl := slice_capw hL
       have HLwa : Hid (wa.length ≤ 1048576) := Nat.le_trans (words_len s wa (by rw [HWS.out]; simp)) hs
       have HLwb : Hid (wb.length ≤ 1048576) := Nat.le_trans (words_len s wb (by rw [HWS.out]; simp)) hs
       clear hc hL qa0 qb0 hq hq0
       go_wp2_with fail
       simp only [List.length_cons, List.length_nil, Nat.zero_add, Nat.reduceAdd]
       go_loopw [96] (fun i wq => ∃ (j : Nat) (D : Dd) (ad : Option Addr) (cd : Nat), j ≤ 2 ∧ i = .int .i64 (j : Int) ∧ Hid (readTo 1 (([wa, wb] : List (List UInt8)).take j) = some D) ∧ wq.heap[gd]? = some (.cells #[.int .i64 D.kind, .int .i64 D.key, .int .i64 D.num, .slice ad D.data.length cd] 24 (0, 0)) ∧ Bytes wq (.slice ad D.data.length cd) D.data ∧ D.data.length ≤ 1048576 ∧ Grow W1 wq) (fun i _ => 2 - (intOf i).toNat)
       case atStart => exact ⟨0, ⟨1, 0, 0, []⟩, none, 0, by omega, rfl, (by show _ = _; rfl), hD, bytes_none _, Nat.zero_le _, hgq⟩
       case round =>
        clear hD hgq hZq gw y0
        obtain ⟨j, D, ad, cd, hj, rfl, HD, hD, hB, hDl, hgq⟩ := hrel
        have hZq := (hgq.block _ (heap_lt hZ)).trans hZ
        have gw := hg.trans hgq
        have y0 := box_cell hD 0 _ rfl
        have qa := (Below.cell hgq (cell_lt qa1)).trans qa1
        have qb := (Below.cell hgq (cell_lt qb1)).trans qb1
        by_cases hjm : j < 2
        ·have hj5 : j = 0 ∨ j = 1 := by omega
         rcases hj5 with rfl | rfl
         ·obtain rfl : D = ⟨1, 0, 0, []⟩ := by have h := HD.out; simp [readTo] at h; exact h.symm
          have HBN : Hid (ad = none → cd = 0) := bytes_zcap hB
          clear hB hDl hjm
          go_wp2_with fail
          refine (AT wa _ (hV _ _ hw gw) (by have := HLwa.out; omega)).mono ?_
          rintro r w5 ⟨⟨n, ev, rfl, hcase⟩, g5⟩
          have hD5 := (g5.block _ (heap_lt hD)).trans hD
          have hZ5 := (g5.block _ (heap_lt hZq)).trans hZq
          have gq5 := hgq.trans g5
          have gw5 := gw.trans g5
          clear qa hD hZq hgq gw g5 y0
          rcases hcase with ⟨hok, rfl, hn0, hn1⟩ | ⟨hno, T, p, rfl⟩
          ·have HOK : Hid _ := hok
           clear hok
           go_wp2_with fail
           refine (IT n _ (hV _ _ hw gw5) hn0 hn1).mono ?_
           rintro r w6 ⟨rfl, g6⟩
           have hD6 := (g6.block _ (heap_lt hD5)).trans hD5
           have hZq := (g6.block _ (heap_lt hZ5)).trans hZ5
           have gq6 := gq5.trans g6
           have gw := gw5.trans g6
           clear hD5 hZ5 gq5 gw5 g6
           by_cases hit : Lib.itoa n = wa
           ·have HNW : Hid (numW wa = some n) := num_yes HOK.out hit
            have dA : (Lib.itoa n == wa) = true := by simp [hit]
            have HRD : Hid (readTo 1 [wa] = some ⟨1, n, 0, []⟩) := by show _ = _; simp [readTo, HNW.out]
            clear hit HOK HD
            have y0 := box_cell hD6 1 _ rfl
            have f0 := box_frozen hD6 1
            have hD7 : (w6.setCell ⟨gd, 1, none⟩ (.int .i64 n)).heap[gd]? = some (.cells #[.int .i64 1, .int .i64 n, .int .i64 0, .slice ad 0 cd] 24 (0, 0)) := heap_set hD6 1 _
            have g7 := grow_set gq6 (a := ⟨gd, 1, none⟩) (by rw [HGD.out]; exact Nat.le_refl _) (.int .i64 n)
            go_wp2_with fail
            go_roundw
            case rel => exact ⟨1, ⟨1, n, 0, []⟩, ad, cd, by omega, by go_num, HRD, hD7, bytes_zero _ HBN.out, Nat.zero_le _, g7⟩
            case measure => simp [intOf]
           ·have dA : (Lib.itoa n == wa) = false := by simp [hit]
            obtain rfl : PD = (noDd, 2) := by
             have hnw := num_unlike HOK.out hit
             rw [HT.out]; simp [twoOf, readTo, hnw, parsedOf]
            clear hit HOK HT HD hD6
            go_wp2_with fail
            refine (rno_any 2 _).mono ?_
            rintro r wN ⟨rfl, gN⟩
            have hZn := (gN.block _ (heap_lt hZq)).trans hZq
            obtain ⟨z0, z1, z2, z3⟩ := box4 hZn rfl rfl rfl rfl
            obtain ⟨f0, f1, f2, f3⟩ := boxf4 hZn
            have cs := cell_set
            obtain ⟨hp1, hp2⟩ := box_put hZn (.int .i64 0) (.int .i64 0) (.int .i64 0) (.slice none 0 0)
            have gE := hp2.grow (gw.trans gN) (Nat.le_refl _)
            obtain ⟨x0, x1, x2, x3⟩ := box4 hp1 rfl rfl rfl rfl
            clear hp1 hp2 hZn hZq gw gN
            go_wp2_with fail
            exact bodyPost_ret (v := .tuple #[.agg #[.int .i64 0, .int .i64 0, .int .i64 0, .slice none 0 0], .int .i64 2]) (by simp [results, Tryd.results7, go_sem, x0, x1, x2, x3]) rfl ⟨⟨_, rfl, none, 0, rfl, bytes_none _⟩, gE⟩
          ·have hZq := hZ5
           have gw := gw5
           obtain rfl : PD = (noDd, 2) := by
            have hnw := num_no hno
            rw [HT.out]; simp [twoOf, readTo, hnw, parsedOf]
           clear HT HD hD5 gw5 hZ5 hno
           go_wp2_with fail
           refine (rno_any 2 _).mono ?_
           rintro r wN ⟨rfl, gN⟩
           have hZn := (gN.block _ (heap_lt hZq)).trans hZq
           obtain ⟨z0, z1, z2, z3⟩ := box4 hZn rfl rfl rfl rfl
           obtain ⟨f0, f1, f2, f3⟩ := boxf4 hZn
           have cs := cell_set
           obtain ⟨hp1, hp2⟩ := box_put hZn (.int .i64 0) (.int .i64 0) (.int .i64 0) (.slice none 0 0)
           have gE := hp2.grow (gw.trans gN) (Nat.le_refl _)
           obtain ⟨x0, x1, x2, x3⟩ := box4 hp1 rfl rfl rfl rfl
           clear hp1 hp2 hZn hZq gw gN
           go_wp2_with fail
           exact bodyPost_ret (v := .tuple #[.agg #[.int .i64 0, .int .i64 0, .int .i64 0, .slice none 0 0], .int .i64 2]) (by simp [results, Tryd.results7, go_sem, x0, x1, x2, x3]) rfl ⟨⟨_, rfl, none, 0, rfl, bytes_none _⟩, gE⟩
         ·obtain ⟨ky, HKY, hDD⟩ : ∃ ky, Hid (numW wa = some ky) ∧ D = ⟨1, ky, 0, []⟩ := by
           have h : readTo 1 [wa] = some D := HD.out
           cases hna : numW wa with
           | none => simp [readTo, hna] at h
           | some ky => simp [readTo, hna] at h; exact ⟨ky, rfl, h.symm⟩
          subst hDD
          have HBN : Hid (ad = none → cd = 0) := bytes_zcap hB
          clear hB hDl hjm
          go_wp2_with fail
          refine (rdigits_any wb _ (by have := HLwb.out; omega)).mono ?_
          rintro r w5 ⟨⟨dv, db, rfl, hdq⟩, g5⟩
          have hD5 := (g5.block _ (heap_lt hD)).trans hD
          have hZ5 := (g5.block _ (heap_lt hZq)).trans hZq
          have gq5 := hgq.trans g5
          have gw5 := gw.trans g5
          clear qb hD hZq hgq gw g5 y0
          cases hdr : dataR wb with
          | none =>
           rw [hdr] at hdq
           have hdb : db = false := hdq
           subst hdb
           have hZq := hZ5
           have gw := gw5
           obtain rfl : PD = (noDd, 2) := by rw [HT.out]; simp [twoOf, readTo, hdr, HKY.out, parsedOf]
           clear HT HD hD5 gw5 hZ5 hdr hdq
           go_wp2_with fail
           refine (rno_any 2 _).mono ?_
           rintro r wN ⟨rfl, gN⟩
           have hZn := (gN.block _ (heap_lt hZq)).trans hZq
           obtain ⟨z0, z1, z2, z3⟩ := box4 hZn rfl rfl rfl rfl
           obtain ⟨f0, f1, f2, f3⟩ := boxf4 hZn
           have cs := cell_set
           obtain ⟨hp1, hp2⟩ := box_put hZn (.int .i64 0) (.int .i64 0) (.int .i64 0) (.slice none 0 0)
           have gE := hp2.grow (gw.trans gN) (Nat.le_refl _)
           obtain ⟨x0, x1, x2, x3⟩ := box4 hp1 rfl rfl rfl rfl
           clear hp1 hp2 hZn hZq gw gN
           go_wp2_with fail
           exact bodyPost_ret (v := .tuple #[.agg #[.int .i64 0, .int .i64 0, .int .i64 0, .slice none 0 0], .int .i64 2]) (by simp [results, Tryd.results7, go_sem, x0, x1, x2, x3]) rfl ⟨⟨_, rfl, none, 0, rfl, bytes_none _⟩, gE⟩
          | some l =>
           rw [hdr] at hdq
           obtain ⟨hdb, hbl⟩ : db = true ∧ Bytes w5 dv l := hdq
           subst hdb
           have HRD : Hid (readTo 1 [wa, wb] = some ⟨1, ky, 0, l⟩) := by show _ = _; simp [readTo, hdr, HKY.out]
           have HLL : Hid (l.length ≤ 1048576) := Nat.le_trans (dataR_len hdr) HLwb.out
           obtain ⟨av, cv, rfl, -, -⟩ := bytes_src hbl
           clear hdr HD
           have y0 := box_cell hD5 3 _ rfl
           have f0 := box_frozen hD5 3
           have hD7 : (w5.setCell ⟨gd, 3, none⟩ (.slice av l.length cv)).heap[gd]? = some (.cells #[.int .i64 1, .int .i64 ky, .int .i64 0, .slice av l.length cv] 24 (0, 0)) := heap_set hD5 3 _
           have g7 := grow_set gq5 (a := ⟨gd, 3, none⟩) (by rw [HGD.out]; exact Nat.le_refl _) (.slice av l.length cv)
           have hb7 := bytes_deed hbl hD5 ((GrowBut.refl gd w5).set 3 none (.slice av l.length cv))
           clear hbl hD5
           go_wp2_with fail
           go_roundw
           case rel => exact ⟨2, ⟨1, ky, 0, l⟩, av, cv, by omega, by go_num, HRD, hD7, hb7, HLL.out, g7⟩
           case measure => simp [intOf]
        ·have HDD : Hid (readTo 1 [wa, wb] = some D) := by
          show _ = _
          have h := HD.out
          rw [List.take_of_length_le (by simp; omega)] at h
          exact h
         have HPP : Hid (PD = if wrongD D = 0 then (D, 0) else (noDd, wrongD D)) := by show _ = _; rw [HT.out]; simp [twoOf, HDD.out, parsedOf]
         clear HD HT HDD qa qb 
         have y1 := box_cell hD 1 _ rfl
         have y2 := box_cell hD 2 _ rfl
         have y3 := box_cell hD 3 _ rfl
         go_wp2_with fail
         refine (rwrongD_any D ad cd _ (by omega)).mono ?_
         by_cases hwr : wrongD D = 0
         ·obtain rfl : PD = (D, 0) := by rw [HPP.out, if_pos hwr]
          rw [hwr]
          rintro r w5 ⟨rfl, g5⟩
          have hD5 := (g5.block _ (heap_lt hD)).trans hD
          have hZ5 := (g5.block _ (heap_lt hZq)).trans hZq
          have hB5 := bytes_grow hB g5
          have gw5 := gw.trans g5
          clear y0 y1 y2 y3 hD hZq hB gw hgq g5 HPP hwr
          obtain ⟨y0, y1, y2, y3⟩ := box4 hD5 rfl rfl rfl rfl
          obtain ⟨z0, z1, z2, z3⟩ := box4 hZ5 rfl rfl rfl rfl
          obtain ⟨f0, f1, f2, f3⟩ := boxf4 hZ5
          have cs := cell_set
          obtain ⟨hp1, hp2⟩ := box_put hZ5 (.int .i64 D.kind) (.int .i64 D.key) (.int .i64 D.num) (.slice ad D.data.length cd)
          have gE := hp2.grow gw5 (Nat.le_refl _)
          have hBE := bytes_deed hB5 hZ5 hp2
          obtain ⟨x0, x1, x2, x3⟩ := box4 hp1 rfl rfl rfl rfl
          clear hp1 hp2 hZ5 hD5 gw5 hB5
          go_wp2_with fail
          exact bodyPost_ret (v := .tuple #[.agg #[.int .i64 D.kind, .int .i64 D.key, .int .i64 D.num, .slice ad D.data.length cd], .int .i64 0]) (by simp [results, Tryd.results7, go_sem, x0, x1, x2, x3]) rfl ⟨⟨_, rfl, ad, cd, rfl, hBE⟩, gE⟩
         ·obtain rfl : PD = (noDd, wrongD D) := by rw [HPP.out, if_neg hwr]
          have dE : (wrongD D != 0) = true := by simp [hwr]
          rintro r w5 ⟨rfl, g5⟩
          have hZ5 := (g5.block _ (heap_lt hZq)).trans hZq
          have gw5 := gw.trans g5
          obtain ⟨EE, hEE⟩ : ∃ EE, EE = wrongD D := ⟨_, rfl⟩
          rw [← hEE] at dE ⊢
          have HEE : Hid _ := hEE
          clear y0 y1 y2 y3 hD hZq hB gw hgq g5 HPP hwr hEE
          have hZq := hZ5
          have gw := gw5
          clear hZ5 gw5
          go_wp2_with fail
          refine (rno_any EE _).mono ?_
          rintro r wN ⟨rfl, gN⟩
          have hZn := (gN.block _ (heap_lt hZq)).trans hZq
          obtain ⟨z0, z1, z2, z3⟩ := box4 hZn rfl rfl rfl rfl
          obtain ⟨f0, f1, f2, f3⟩ := boxf4 hZn
          have cs := cell_set
          obtain ⟨hp1, hp2⟩ := box_put hZn (.int .i64 0) (.int .i64 0) (.int .i64 0) (.slice none 0 0)
          have gE := hp2.grow (gw.trans gN) (Nat.le_refl _)
          obtain ⟨x0, x1, x2, x3⟩ := box4 hp1 rfl rfl rfl rfl
          clear hp1 hp2 hZn hZq gw gN
          go_wp2_with fail
          exact bodyPost_ret (v := .tuple #[.agg #[.int .i64 0, .int .i64 0, .int .i64 0, .slice none 0 0], .int .i64 EE]) (by simp [results, Tryd.results7, go_sem, x0, x1, x2, x3]) rfl ⟨⟨_, rfl, none, 0, by rw [HEE.out]; rfl, bytes_none _⟩, gE⟩
      ·obtain rfl : PD = (noDd, 2) := by
        rw [HT.out]
        match rest, hc with
        | [], _ => rfl
        | [a], _ => rfl
        | [a, b], hc => simp at hc
        | a :: b :: c :: r, _ => rfl
       have dA : ((((w0 :: rest).length : Nat) : Int) != 3) = true := by simp; omega
       have dB : ((rest.length : Int) + 1 != 3) = true := by simp; omega
       clear hc HT
       go_wp2_with fail
       refine (rno_any 2 _).mono ?_
       rintro r wN ⟨rfl, gN⟩
       have hZn := (gN.block _ (heap_lt hZq)).trans hZq
       obtain ⟨z0, z1, z2, z3⟩ := box4 hZn rfl rfl rfl rfl
       obtain ⟨f0, f1, f2, f3⟩ := boxf4 hZn
       have cs := cell_set
       obtain ⟨hp1, hp2⟩ := box_put hZn (.int .i64 0) (.int .i64 0) (.int .i64 0) (.slice none 0 0)
       have gE := hp2.grow (gw.trans gN) (Nat.le_refl _)
       obtain ⟨x0, x1, x2, x3⟩ := box4 hp1 rfl rfl rfl rfl
       clear hp1 hp2 hZn hZq gw gN
       go_wp2_with fail
       exact bodyPost_ret (v := .tuple #[.agg #[.int .i64 0, .int .i64 0, .int .i64 0, .slice none 0 0], .int .i64 2]) (by simp [results, Tryd.results7, go_sem, x0, x1, x2, x3]) rfl ⟨⟨_, rfl, none, 0, rfl, bytes_none _⟩, gE⟩
     ·by_cases e2 : w0 = wDelete
      ·obtain rfl : K = 2 := by rw [HK4.out]; simp [kindAt, e2, wPut, wDelete]
       have HT : Hid (PD = oneOf rest) := by show _ = _; rw [HPD.out]; exact parse_one (by rw [← e2]; exact HWS.out)
       clear e1 e2 HK4 HPD
       by_cases hc : rest.length = 1
       ·obtain ⟨wa, rfl⟩ : ∃ wa, rest = [wa] := by
         match rest, hc with
         | [x], _ => exact ⟨x, rfl⟩
        obtain ⟨b1, o1, e1, qa0⟩ := words_at hL 1 (by simp)
        cases e1
        have qa1 : W1.cell? ⟨b, off + 1, none⟩ = some (.string ⟨wa.toArray⟩) := qa0
        have hcap : 2 ≤ cl := slice_capw hL
        have HLwa : Hid (wa.length ≤ 1048576) := Nat.le_trans (words_len s wa (by rw [HWS.out]; simp)) hs
        clear hc hL qa0 hq hq0
        go_wp2_with fail
        simp only [List.length_cons, List.length_nil, Nat.zero_add, Nat.reduceAdd]
        go_loopw [96] (fun i wq => ∃ (j : Nat) (D : Dd) (ad : Option Addr) (cd : Nat), j ≤ 1 ∧ i = .int .i64 (j : Int) ∧ Hid (readTo 2 (([wa] : List (List UInt8)).take j) = some D) ∧ wq.heap[gd]? = some (.cells #[.int .i64 D.kind, .int .i64 D.key, .int .i64 D.num, .slice ad D.data.length cd] 24 (0, 0)) ∧ Bytes wq (.slice ad D.data.length cd) D.data ∧ D.data.length ≤ 1048576 ∧ Grow W1 wq) (fun i _ => 1 - (intOf i).toNat)
        case atStart => exact ⟨0, ⟨2, 0, 0, []⟩, none, 0, by omega, rfl, (by show _ = _; rfl), hD, bytes_none _, Nat.zero_le _, hgq⟩
        case round =>
         clear hD hgq hZq gw y0
         obtain ⟨j, D, ad, cd, hj, rfl, HD, hD, hB, hDl, hgq⟩ := hrel
         have hZq := (hgq.block _ (heap_lt hZ)).trans hZ
         have gw := hg.trans hgq
         have y0 := box_cell hD 0 _ rfl
         have qa := (Below.cell hgq (cell_lt qa1)).trans qa1
         by_cases hjm : j < 1
         ·obtain rfl : j = 0 := by omega
          obtain rfl : D = ⟨2, 0, 0, []⟩ := by have h := HD.out; simp [readTo] at h; exact h.symm
          have HBN : Hid (ad = none → cd = 0) := bytes_zcap hB
          clear hB hDl hjm
          go_wp2_with fail
          refine (AT wa _ (hV _ _ hw gw) (by have := HLwa.out; omega)).mono ?_
          rintro r w5 ⟨⟨n, ev, rfl, hcase⟩, g5⟩
          have hD5 := (g5.block _ (heap_lt hD)).trans hD
          have hZ5 := (g5.block _ (heap_lt hZq)).trans hZq
          have gq5 := hgq.trans g5
          have gw5 := gw.trans g5
          clear qa hD hZq hgq gw g5 y0
          rcases hcase with ⟨hok, rfl, hn0, hn1⟩ | ⟨hno, T, p, rfl⟩
          ·have HOK : Hid _ := hok
           clear hok
           go_wp2_with fail
           refine (IT n _ (hV _ _ hw gw5) hn0 hn1).mono ?_
           rintro r w6 ⟨rfl, g6⟩
           have hD6 := (g6.block _ (heap_lt hD5)).trans hD5
           have hZq := (g6.block _ (heap_lt hZ5)).trans hZ5
           have gq6 := gq5.trans g6
           have gw := gw5.trans g6
           clear hD5 hZ5 gq5 gw5 g6
           by_cases hit : Lib.itoa n = wa
           ·have HNW : Hid (numW wa = some n) := num_yes HOK.out hit
            have dA : (Lib.itoa n == wa) = true := by simp [hit]
            have HRD : Hid (readTo 2 [wa] = some ⟨2, n, 0, []⟩) := by show _ = _; simp [readTo, HNW.out]
            clear hit HOK HD
            have y0 := box_cell hD6 1 _ rfl
            have f0 := box_frozen hD6 1
            have hD7 : (w6.setCell ⟨gd, 1, none⟩ (.int .i64 n)).heap[gd]? = some (.cells #[.int .i64 2, .int .i64 n, .int .i64 0, .slice ad 0 cd] 24 (0, 0)) := heap_set hD6 1 _
            have g7 := grow_set gq6 (a := ⟨gd, 1, none⟩) (by rw [HGD.out]; exact Nat.le_refl _) (.int .i64 n)
            go_wp2_with fail
            go_roundw
            case rel => exact ⟨1, ⟨2, n, 0, []⟩, ad, cd, by omega, by go_num, HRD, hD7, bytes_zero _ HBN.out, Nat.zero_le _, g7⟩
            case measure => simp [intOf]
           ·have dA : (Lib.itoa n == wa) = false := by simp [hit]
            obtain rfl : PD = (noDd, 2) := by
             have hnw := num_unlike HOK.out hit
             rw [HT.out]; simp [oneOf, readTo, hnw, parsedOf]
            clear hit HOK HT HD hD6
            go_wp2_with fail
            refine (rno_any 2 _).mono ?_
            rintro r wN ⟨rfl, gN⟩
            have hZn := (gN.block _ (heap_lt hZq)).trans hZq
            obtain ⟨z0, z1, z2, z3⟩ := box4 hZn rfl rfl rfl rfl
            obtain ⟨f0, f1, f2, f3⟩ := boxf4 hZn
            have cs := cell_set
            obtain ⟨hp1, hp2⟩ := box_put hZn (.int .i64 0) (.int .i64 0) (.int .i64 0) (.slice none 0 0)
            have gE := hp2.grow (gw.trans gN) (Nat.le_refl _)
            obtain ⟨x0, x1, x2, x3⟩ := box4 hp1 rfl rfl rfl rfl
            clear hp1 hp2 hZn hZq gw gN
            go_wp2_with fail
            exact bodyPost_ret (v := .tuple #[.agg #[.int .i64 0, .int .i64 0, .int .i64 0, .slice none 0 0], .int .i64 2]) (by simp [results, Tryd.results7, go_sem, x0, x1, x2, x3]) rfl ⟨⟨_, rfl, none, 0, rfl, bytes_none _⟩, gE⟩
          ·have hZq := hZ5
           have gw := gw5
           obtain rfl : PD = (noDd, 2) := by
            have hnw := num_no hno
            rw [HT.out]; simp [oneOf, readTo, hnw, parsedOf]
           clear HT HD hD5 gw5 hZ5 hno
           go_wp2_with fail
           refine (rno_any 2 _).mono ?_
           rintro r wN ⟨rfl, gN⟩
           have hZn := (gN.block _ (heap_lt hZq)).trans hZq
           obtain ⟨z0, z1, z2, z3⟩ := box4 hZn rfl rfl rfl rfl
           obtain ⟨f0, f1, f2, f3⟩ := boxf4 hZn
           have cs := cell_set
           obtain ⟨hp1, hp2⟩ := box_put hZn (.int .i64 0) (.int .i64 0) (.int .i64 0) (.slice none 0 0)
           have gE := hp2.grow (gw.trans gN) (Nat.le_refl _)
           obtain ⟨x0, x1, x2, x3⟩ := box4 hp1 rfl rfl rfl rfl
           clear hp1 hp2 hZn hZq gw gN
           go_wp2_with fail
           exact bodyPost_ret (v := .tuple #[.agg #[.int .i64 0, .int .i64 0, .int .i64 0, .slice none 0 0], .int .i64 2]) (by simp [results, Tryd.results7, go_sem, x0, x1, x2, x3]) rfl ⟨⟨_, rfl, none, 0, rfl, bytes_none _⟩, gE⟩
         ·have HDD : Hid (readTo 2 [wa] = some D) := by
           show _ = _
           have h := HD.out
           rw [List.take_of_length_le (by simp; omega)] at h
           exact h
          have HPP : Hid (PD = if wrongD D = 0 then (D, 0) else (noDd, wrongD D)) := by show _ = _; rw [HT.out]; simp [oneOf, HDD.out, parsedOf]
          clear HD HT HDD qa 
          have y1 := box_cell hD 1 _ rfl
          have y2 := box_cell hD 2 _ rfl
          have y3 := box_cell hD 3 _ rfl
          go_wp2_with fail
          refine (rwrongD_any D ad cd _ (by omega)).mono ?_
          by_cases hwr : wrongD D = 0
          ·obtain rfl : PD = (D, 0) := by rw [HPP.out, if_pos hwr]
           rw [hwr]
           rintro r w5 ⟨rfl, g5⟩
           have hD5 := (g5.block _ (heap_lt hD)).trans hD
           have hZ5 := (g5.block _ (heap_lt hZq)).trans hZq
           have hB5 := bytes_grow hB g5
           have gw5 := gw.trans g5
           clear y0 y1 y2 y3 hD hZq hB gw hgq g5 HPP hwr
           obtain ⟨y0, y1, y2, y3⟩ := box4 hD5 rfl rfl rfl rfl
           obtain ⟨z0, z1, z2, z3⟩ := box4 hZ5 rfl rfl rfl rfl
           obtain ⟨f0, f1, f2, f3⟩ := boxf4 hZ5
           have cs := cell_set
           obtain ⟨hp1, hp2⟩ := box_put hZ5 (.int .i64 D.kind) (.int .i64 D.key) (.int .i64 D.num) (.slice ad D.data.length cd)
           have gE := hp2.grow gw5 (Nat.le_refl _)
           have hBE := bytes_deed hB5 hZ5 hp2
           obtain ⟨x0, x1, x2, x3⟩ := box4 hp1 rfl rfl rfl rfl
           clear hp1 hp2 hZ5 hD5 gw5 hB5
           go_wp2_with fail
           exact bodyPost_ret (v := .tuple #[.agg #[.int .i64 D.kind, .int .i64 D.key, .int .i64 D.num, .slice ad D.data.length cd], .int .i64 0]) (by simp [results, Tryd.results7, go_sem, x0, x1, x2, x3]) rfl ⟨⟨_, rfl, ad, cd, rfl, hBE⟩, gE⟩
          ·obtain rfl : PD = (noDd, wrongD D) := by rw [HPP.out, if_neg hwr]
           have dE : (wrongD D != 0) = true := by simp [hwr]
           rintro r w5 ⟨rfl, g5⟩
           have hZ5 := (g5.block _ (heap_lt hZq)).trans hZq
           have gw5 := gw.trans g5
           obtain ⟨EE, hEE⟩ : ∃ EE, EE = wrongD D := ⟨_, rfl⟩
           rw [← hEE] at dE ⊢
           have HEE : Hid _ := hEE
           clear y0 y1 y2 y3 hD hZq hB gw hgq g5 HPP hwr hEE
           have hZq := hZ5
           have gw := gw5
           clear hZ5 gw5
           go_wp2_with fail
           refine (rno_any EE _).mono ?_
           rintro r wN ⟨rfl, gN⟩
           have hZn := (gN.block _ (heap_lt hZq)).trans hZq
           obtain ⟨z0, z1, z2, z3⟩ := box4 hZn rfl rfl rfl rfl
           obtain ⟨f0, f1, f2, f3⟩ := boxf4 hZn
           have cs := cell_set
           obtain ⟨hp1, hp2⟩ := box_put hZn (.int .i64 0) (.int .i64 0) (.int .i64 0) (.slice none 0 0)
           have gE := hp2.grow (gw.trans gN) (Nat.le_refl _)
           obtain ⟨x0, x1, x2, x3⟩ := box4 hp1 rfl rfl rfl rfl
           clear hp1 hp2 hZn hZq gw gN
           go_wp2_with fail
           exact bodyPost_ret (v := .tuple #[.agg #[.int .i64 0, .int .i64 0, .int .i64 0, .slice none 0 0], .int .i64 EE]) (by simp [results, Tryd.results7, go_sem, x0, x1, x2, x3]) rfl ⟨⟨_, rfl, none, 0, by rw [HEE.out]; rfl, bytes_none _⟩, gE⟩
       ·obtain rfl : PD = (noDd, 2) := by
         rw [HT.out]
         match rest, hc with
         | [], _ => rfl
         | [a], hc => simp at hc
         | a :: b :: r, _ => rfl
        have dA : ((((w0 :: rest).length : Nat) : Int) != 2) = true := by simp; omega
        have dB : ((rest.length : Int) + 1 != 2) = true := by simp; omega
        by_cases h3 : rest.length = 2
        ·have dC : ((((w0 :: rest).length : Nat) : Int) != 3) = false := by simp; omega
         have dD : ((rest.length : Int) + 1 != 3) = false := by simp; omega
         clear hc HT h3
         go_wp2_with fail
         refine (rno_any 2 _).mono ?_
         rintro r wN ⟨rfl, gN⟩
         have hZn := (gN.block _ (heap_lt hZq)).trans hZq
         obtain ⟨z0, z1, z2, z3⟩ := box4 hZn rfl rfl rfl rfl
         obtain ⟨f0, f1, f2, f3⟩ := boxf4 hZn
         have cs := cell_set
         obtain ⟨hp1, hp2⟩ := box_put hZn (.int .i64 0) (.int .i64 0) (.int .i64 0) (.slice none 0 0)
         have gE := hp2.grow (gw.trans gN) (Nat.le_refl _)
         obtain ⟨x0, x1, x2, x3⟩ := box4 hp1 rfl rfl rfl rfl
         clear hp1 hp2 hZn hZq gw gN
         go_wp2_with fail
         exact bodyPost_ret (v := .tuple #[.agg #[.int .i64 0, .int .i64 0, .int .i64 0, .slice none 0 0], .int .i64 2]) (by simp [results, Tryd.results7, go_sem, x0, x1, x2, x3]) rfl ⟨⟨_, rfl, none, 0, rfl, bytes_none _⟩, gE⟩
        ·have dC : ((((w0 :: rest).length : Nat) : Int) != 3) = true := by simp; omega
         have dD : ((rest.length : Int) + 1 != 3) = true := by simp; omega
         clear hc HT h3
         go_wp2_with fail
         refine (rno_any 2 _).mono ?_
         rintro r wN ⟨rfl, gN⟩
         have hZn := (gN.block _ (heap_lt hZq)).trans hZq
         obtain ⟨z0, z1, z2, z3⟩ := box4 hZn rfl rfl rfl rfl
         obtain ⟨f0, f1, f2, f3⟩ := boxf4 hZn
         have cs := cell_set
         obtain ⟨hp1, hp2⟩ := box_put hZn (.int .i64 0) (.int .i64 0) (.int .i64 0) (.slice none 0 0)
         have gE := hp2.grow (gw.trans gN) (Nat.le_refl _)
         obtain ⟨x0, x1, x2, x3⟩ := box4 hp1 rfl rfl rfl rfl
         clear hp1 hp2 hZn hZq gw gN
         go_wp2_with fail
         exact bodyPost_ret (v := .tuple #[.agg #[.int .i64 0, .int .i64 0, .int .i64 0, .slice none 0 0], .int .i64 2]) (by simp [results, Tryd.results7, go_sem, x0, x1, x2, x3]) rfl ⟨⟨_, rfl, none, 0, rfl, bytes_none _⟩, gE⟩
      ·by_cases e3 : w0 = wPurge
       ·obtain rfl : K = 3 := by rw [HK4.out]; simp [kindAt, e3, wPut, wDelete, wPurge]
        have HT : Hid (PD = twoOf 3 rest) := by show _ = _; rw [HPD.out]; exact parse_two HWS.out 3 (.inr ⟨e3, rfl⟩)
        clear e1 e2 e3 HK4 HPD
        by_cases hc : rest.length = 2
        ·obtain ⟨wa, wb, rfl⟩ : ∃ wa wb, rest = [wa, wb] := by
          match rest, hc with
          | [x, y], _ => exact ⟨x, y, rfl⟩
         obtain ⟨b1, o1, e1, qa0⟩ := words_at hL 1 (by simp)
         cases e1
         have qa1 : W1.cell? ⟨b, off + 1, none⟩ = some (.string ⟨wa.toArray⟩) := qa0
         obtain ⟨b1, o1, e1, qb0⟩ := words_at hL 2 (by simp)
         cases e1
         have qb1 : W1.cell? ⟨b, off + 2, none⟩ = some (.string ⟨wb.toArray⟩) := qb0
         have hcap : 3 ≤ cl := slice_capw hL
         have HLwa : Hid (wa.length ≤ 1048576) := Nat.le_trans (words_len s wa (by rw [HWS.out]; simp)) hs
         have HLwb : Hid (wb.length ≤ 1048576) := Nat.le_trans (words_len s wb (by rw [HWS.out]; simp)) hs
         clear hc hL qa0 qb0 hq hq0
         go_wp2_with fail
         simp only [List.length_cons, List.length_nil, Nat.zero_add, Nat.reduceAdd]
         go_loopw [96] (fun i wq => ∃ (j : Nat) (D : Dd) (ad : Option Addr) (cd : Nat), j ≤ 2 ∧ i = .int .i64 (j : Int) ∧ Hid (readTo 3 (([wa, wb] : List (List UInt8)).take j) = some D) ∧ wq.heap[gd]? = some (.cells #[.int .i64 D.kind, .int .i64 D.key, .int .i64 D.num, .slice ad D.data.length cd] 24 (0, 0)) ∧ Bytes wq (.slice ad D.data.length cd) D.data ∧ D.data.length ≤ 1048576 ∧ Grow W1 wq) (fun i _ => 2 - (intOf i).toNat)
         case atStart => exact ⟨0, ⟨3, 0, 0, []⟩, none, 0, by omega, rfl, (by show _ = _; rfl), hD, bytes_none _, Nat.zero_le _, hgq⟩
         case round =>
          clear hD hgq hZq gw y0
          obtain ⟨j, D, ad, cd, hj, rfl, HD, hD, hB, hDl, hgq⟩ := hrel
          have hZq := (hgq.block _ (heap_lt hZ)).trans hZ
          have gw := hg.trans hgq
          have y0 := box_cell hD 0 _ rfl
          have qa := (Below.cell hgq (cell_lt qa1)).trans qa1
          have qb := (Below.cell hgq (cell_lt qb1)).trans qb1
          by_cases hjm : j < 2
          ·have hj5 : j = 0 ∨ j = 1 := by omega
           rcases hj5 with rfl | rfl
           ·obtain rfl : D = ⟨3, 0, 0, []⟩ := by have h := HD.out; simp [readTo] at h; exact h.symm
            have HBN : Hid (ad = none → cd = 0) := bytes_zcap hB
            clear hB hDl hjm
            go_wp2_with fail
            refine (AT wa _ (hV _ _ hw gw) (by have := HLwa.out; omega)).mono ?_
            rintro r w5 ⟨⟨n, ev, rfl, hcase⟩, g5⟩
            have hD5 := (g5.block _ (heap_lt hD)).trans hD
            have hZ5 := (g5.block _ (heap_lt hZq)).trans hZq
            have gq5 := hgq.trans g5
            have gw5 := gw.trans g5
            clear qa hD hZq hgq gw g5 y0
            rcases hcase with ⟨hok, rfl, hn0, hn1⟩ | ⟨hno, T, p, rfl⟩
            ·have HOK : Hid _ := hok
             clear hok
             go_wp2_with fail
             refine (IT n _ (hV _ _ hw gw5) hn0 hn1).mono ?_
             rintro r w6 ⟨rfl, g6⟩
             have hD6 := (g6.block _ (heap_lt hD5)).trans hD5
             have hZq := (g6.block _ (heap_lt hZ5)).trans hZ5
             have gq6 := gq5.trans g6
             have gw := gw5.trans g6
             clear hD5 hZ5 gq5 gw5 g6
             by_cases hit : Lib.itoa n = wa
             ·have HNW : Hid (numW wa = some n) := num_yes HOK.out hit
              have dA : (Lib.itoa n == wa) = true := by simp [hit]
              have HRD : Hid (readTo 3 [wa] = some ⟨3, n, 0, []⟩) := by show _ = _; simp [readTo, HNW.out]
              clear hit HOK HD
              have y0 := box_cell hD6 1 _ rfl
              have f0 := box_frozen hD6 1
              have hD7 : (w6.setCell ⟨gd, 1, none⟩ (.int .i64 n)).heap[gd]? = some (.cells #[.int .i64 3, .int .i64 n, .int .i64 0, .slice ad 0 cd] 24 (0, 0)) := heap_set hD6 1 _
              have g7 := grow_set gq6 (a := ⟨gd, 1, none⟩) (by rw [HGD.out]; exact Nat.le_refl _) (.int .i64 n)
              go_wp2_with fail
              go_roundw
              case rel => exact ⟨1, ⟨3, n, 0, []⟩, ad, cd, by omega, by go_num, HRD, hD7, bytes_zero _ HBN.out, Nat.zero_le _, g7⟩
              case measure => simp [intOf]
             ·have dA : (Lib.itoa n == wa) = false := by simp [hit]
              obtain rfl : PD = (noDd, 2) := by
               have hnw := num_unlike HOK.out hit
               rw [HT.out]; simp [twoOf, readTo, hnw, parsedOf]
              clear hit HOK HT HD hD6
              go_wp2_with fail
              refine (rno_any 2 _).mono ?_
              rintro r wN ⟨rfl, gN⟩
              have hZn := (gN.block _ (heap_lt hZq)).trans hZq
              obtain ⟨z0, z1, z2, z3⟩ := box4 hZn rfl rfl rfl rfl
              obtain ⟨f0, f1, f2, f3⟩ := boxf4 hZn
              have cs := cell_set
              obtain ⟨hp1, hp2⟩ := box_put hZn (.int .i64 0) (.int .i64 0) (.int .i64 0) (.slice none 0 0)
              have gE := hp2.grow (gw.trans gN) (Nat.le_refl _)
              obtain ⟨x0, x1, x2, x3⟩ := box4 hp1 rfl rfl rfl rfl
              clear hp1 hp2 hZn hZq gw gN
              go_wp2_with fail
              exact bodyPost_ret (v := .tuple #[.agg #[.int .i64 0, .int .i64 0, .int .i64 0, .slice none 0 0], .int .i64 2]) (by simp [results, Tryd.results7, go_sem, x0, x1, x2, x3]) rfl ⟨⟨_, rfl, none, 0, rfl, bytes_none _⟩, gE⟩
            ·have hZq := hZ5
             have gw := gw5
             obtain rfl : PD = (noDd, 2) := by
              have hnw := num_no hno
              rw [HT.out]; simp [twoOf, readTo, hnw, parsedOf]
             clear HT HD hD5 gw5 hZ5 hno
             go_wp2_with fail
             refine (rno_any 2 _).mono ?_
             rintro r wN ⟨rfl, gN⟩
             have hZn := (gN.block _ (heap_lt hZq)).trans hZq
             obtain ⟨z0, z1, z2, z3⟩ := box4 hZn rfl rfl rfl rfl
             obtain ⟨f0, f1, f2, f3⟩ := boxf4 hZn
             have cs := cell_set
             obtain ⟨hp1, hp2⟩ := box_put hZn (.int .i64 0) (.int .i64 0) (.int .i64 0) (.slice none 0 0)
             have gE := hp2.grow (gw.trans gN) (Nat.le_refl _)
             obtain ⟨x0, x1, x2, x3⟩ := box4 hp1 rfl rfl rfl rfl
             clear hp1 hp2 hZn hZq gw gN
             go_wp2_with fail
             exact bodyPost_ret (v := .tuple #[.agg #[.int .i64 0, .int .i64 0, .int .i64 0, .slice none 0 0], .int .i64 2]) (by simp [results, Tryd.results7, go_sem, x0, x1, x2, x3]) rfl ⟨⟨_, rfl, none, 0, rfl, bytes_none _⟩, gE⟩
           ·obtain ⟨ky, HKY, hDD⟩ : ∃ ky, Hid (numW wa = some ky) ∧ D = ⟨3, ky, 0, []⟩ := by
             have h : readTo 3 [wa] = some D := HD.out
             cases hna : numW wa with
             | none => simp [readTo, hna] at h
             | some ky => simp [readTo, hna] at h; exact ⟨ky, rfl, h.symm⟩
            subst hDD
            have HBN : Hid (ad = none → cd = 0) := bytes_zcap hB
            clear hB hDl hjm
            go_wp2_with fail
            refine (AT wb _ (hV _ _ hw gw) (by have := HLwb.out; omega)).mono ?_
            rintro r w5 ⟨⟨n, ev, rfl, hcase⟩, g5⟩
            have hD5 := (g5.block _ (heap_lt hD)).trans hD
            have hZ5 := (g5.block _ (heap_lt hZq)).trans hZq
            have gq5 := hgq.trans g5
            have gw5 := gw.trans g5
            clear qb hD hZq hgq gw g5 y0
            rcases hcase with ⟨hok, rfl, hn0, hn1⟩ | ⟨hno, T, p, rfl⟩
            ·have HOK : Hid _ := hok
             clear hok
             go_wp2_with fail
             refine (IT n _ (hV _ _ hw gw5) hn0 hn1).mono ?_
             rintro r w6 ⟨rfl, g6⟩
             have hD6 := (g6.block _ (heap_lt hD5)).trans hD5
             have hZq := (g6.block _ (heap_lt hZ5)).trans hZ5
             have gq6 := gq5.trans g6
             have gw := gw5.trans g6
             clear hD5 hZ5 gq5 gw5 g6
             by_cases hit : Lib.itoa n = wb
             ·have HNW : Hid (numW wb = some n) := num_yes HOK.out hit
              have dA : (Lib.itoa n == wb) = true := by simp [hit]
              have HRD : Hid (readTo 3 [wa, wb] = some ⟨3, ky, n, []⟩) := by show _ = _; simp [readTo, HNW.out, HKY.out]
              clear hit HOK HD
              have y0 := box_cell hD6 2 _ rfl
              have f0 := box_frozen hD6 2
              have hD7 : (w6.setCell ⟨gd, 2, none⟩ (.int .i64 n)).heap[gd]? = some (.cells #[.int .i64 3, .int .i64 ky, .int .i64 n, .slice ad 0 cd] 24 (0, 0)) := heap_set hD6 2 _
              have g7 := grow_set gq6 (a := ⟨gd, 2, none⟩) (by rw [HGD.out]; exact Nat.le_refl _) (.int .i64 n)
              go_wp2_with fail
              go_roundw
              case rel => exact ⟨2, ⟨3, ky, n, []⟩, ad, cd, by omega, by go_num, HRD, hD7, bytes_zero _ HBN.out, Nat.zero_le _, g7⟩
              case measure => simp [intOf]
             ·have dA : (Lib.itoa n == wb) = false := by simp [hit]
              obtain rfl : PD = (noDd, 2) := by
               have hnw := num_unlike HOK.out hit
               rw [HT.out]; simp [twoOf, readTo, hnw, HKY.out, parsedOf]
              clear hit HOK HT HD hD6
              go_wp2_with fail
              refine (rno_any 2 _).mono ?_
              rintro r wN ⟨rfl, gN⟩
              have hZn := (gN.block _ (heap_lt hZq)).trans hZq
              obtain ⟨z0, z1, z2, z3⟩ := box4 hZn rfl rfl rfl rfl
              obtain ⟨f0, f1, f2, f3⟩ := boxf4 hZn
              have cs := cell_set
              obtain ⟨hp1, hp2⟩ := box_put hZn (.int .i64 0) (.int .i64 0) (.int .i64 0) (.slice none 0 0)
              have gE := hp2.grow (gw.trans gN) (Nat.le_refl _)
              obtain ⟨x0, x1, x2, x3⟩ := box4 hp1 rfl rfl rfl rfl
              clear hp1 hp2 hZn hZq gw gN
              go_wp2_with fail
              exact bodyPost_ret (v := .tuple #[.agg #[.int .i64 0, .int .i64 0, .int .i64 0, .slice none 0 0], .int .i64 2]) (by simp [results, Tryd.results7, go_sem, x0, x1, x2, x3]) rfl ⟨⟨_, rfl, none, 0, rfl, bytes_none _⟩, gE⟩
            ·have hZq := hZ5
             have gw := gw5
             obtain rfl : PD = (noDd, 2) := by
              have hnw := num_no hno
              rw [HT.out]; simp [twoOf, readTo, hnw, HKY.out, parsedOf]
             clear HT HD hD5 gw5 hZ5 hno
             go_wp2_with fail
             refine (rno_any 2 _).mono ?_
             rintro r wN ⟨rfl, gN⟩
             have hZn := (gN.block _ (heap_lt hZq)).trans hZq
             obtain ⟨z0, z1, z2, z3⟩ := box4 hZn rfl rfl rfl rfl
             obtain ⟨f0, f1, f2, f3⟩ := boxf4 hZn
             have cs := cell_set
             obtain ⟨hp1, hp2⟩ := box_put hZn (.int .i64 0) (.int .i64 0) (.int .i64 0) (.slice none 0 0)
             have gE := hp2.grow (gw.trans gN) (Nat.le_refl _)
             obtain ⟨x0, x1, x2, x3⟩ := box4 hp1 rfl rfl rfl rfl
             clear hp1 hp2 hZn hZq gw gN
             go_wp2_with fail
             exact bodyPost_ret (v := .tuple #[.agg #[.int .i64 0, .int .i64 0, .int .i64 0, .slice none 0 0], .int .i64 2]) (by simp [results, Tryd.results7, go_sem, x0, x1, x2, x3]) rfl ⟨⟨_, rfl, none, 0, rfl, bytes_none _⟩, gE⟩
          ·have HDD : Hid (readTo 3 [wa, wb] = some D) := by
            show _ = _
            have h := HD.out
            rw [List.take_of_length_le (by simp; omega)] at h
            exact h
           have HPP : Hid (PD = if wrongD D = 0 then (D, 0) else (noDd, wrongD D)) := by show _ = _; rw [HT.out]; simp [twoOf, HDD.out, parsedOf]
           clear HD HT HDD qa qb 
           have y1 := box_cell hD 1 _ rfl
           have y2 := box_cell hD 2 _ rfl
           have y3 := box_cell hD 3 _ rfl
           go_wp2_with fail
           refine (rwrongD_any D ad cd _ (by omega)).mono ?_
           by_cases hwr : wrongD D = 0
           ·obtain rfl : PD = (D, 0) := by rw [HPP.out, if_pos hwr]
            rw [hwr]
            rintro r w5 ⟨rfl, g5⟩
            have hD5 := (g5.block _ (heap_lt hD)).trans hD
            have hZ5 := (g5.block _ (heap_lt hZq)).trans hZq
            have hB5 := bytes_grow hB g5
            have gw5 := gw.trans g5
            clear y0 y1 y2 y3 hD hZq hB gw hgq g5 HPP hwr
            obtain ⟨y0, y1, y2, y3⟩ := box4 hD5 rfl rfl rfl rfl
            obtain ⟨z0, z1, z2, z3⟩ := box4 hZ5 rfl rfl rfl rfl
            obtain ⟨f0, f1, f2, f3⟩ := boxf4 hZ5
            have cs := cell_set
            obtain ⟨hp1, hp2⟩ := box_put hZ5 (.int .i64 D.kind) (.int .i64 D.key) (.int .i64 D.num) (.slice ad D.data.length cd)
            have gE := hp2.grow gw5 (Nat.le_refl _)
            have hBE := bytes_deed hB5 hZ5 hp2
            obtain ⟨x0, x1, x2, x3⟩ := box4 hp1 rfl rfl rfl rfl
            clear hp1 hp2 hZ5 hD5 gw5 hB5
            go_wp2_with fail
            exact bodyPost_ret (v := .tuple #[.agg #[.int .i64 D.kind, .int .i64 D.key, .int .i64 D.num, .slice ad D.data.length cd], .int .i64 0]) (by simp [results, Tryd.results7, go_sem, x0, x1, x2, x3]) rfl ⟨⟨_, rfl, ad, cd, rfl, hBE⟩, gE⟩
           ·obtain rfl : PD = (noDd, wrongD D) := by rw [HPP.out, if_neg hwr]
            have dE : (wrongD D != 0) = true := by simp [hwr]
            rintro r w5 ⟨rfl, g5⟩
            have hZ5 := (g5.block _ (heap_lt hZq)).trans hZq
            have gw5 := gw.trans g5
            obtain ⟨EE, hEE⟩ : ∃ EE, EE = wrongD D := ⟨_, rfl⟩
            rw [← hEE] at dE ⊢
            have HEE : Hid _ := hEE
            clear y0 y1 y2 y3 hD hZq hB gw hgq g5 HPP hwr hEE
            have hZq := hZ5
            have gw := gw5
            clear hZ5 gw5
            go_wp2_with fail
            refine (rno_any EE _).mono ?_
            rintro r wN ⟨rfl, gN⟩
            have hZn := (gN.block _ (heap_lt hZq)).trans hZq
            obtain ⟨z0, z1, z2, z3⟩ := box4 hZn rfl rfl rfl rfl
            obtain ⟨f0, f1, f2, f3⟩ := boxf4 hZn
            have cs := cell_set
            obtain ⟨hp1, hp2⟩ := box_put hZn (.int .i64 0) (.int .i64 0) (.int .i64 0) (.slice none 0 0)
            have gE := hp2.grow (gw.trans gN) (Nat.le_refl _)
            obtain ⟨x0, x1, x2, x3⟩ := box4 hp1 rfl rfl rfl rfl
            clear hp1 hp2 hZn hZq gw gN
            go_wp2_with fail
            exact bodyPost_ret (v := .tuple #[.agg #[.int .i64 0, .int .i64 0, .int .i64 0, .slice none 0 0], .int .i64 EE]) (by simp [results, Tryd.results7, go_sem, x0, x1, x2, x3]) rfl ⟨⟨_, rfl, none, 0, by rw [HEE.out]; rfl, bytes_none _⟩, gE⟩
        ·obtain rfl : PD = (noDd, 2) := by
          rw [HT.out]
          match rest, hc with
          | [], _ => rfl
          | [a], _ => rfl
          | [a, b], hc => simp at hc
          | a :: b :: c :: r, _ => rfl
         have dA : ((((w0 :: rest).length : Nat) : Int) != 3) = true := by simp; omega
         have dB : ((rest.length : Int) + 1 != 3) = true := by simp; omega
         clear hc HT
         go_wp2_with fail
         refine (rno_any 2 _).mono ?_
         rintro r wN ⟨rfl, gN⟩
         have hZn := (gN.block _ (heap_lt hZq)).trans hZq
         obtain ⟨z0, z1, z2, z3⟩ := box4 hZn rfl rfl rfl rfl
         obtain ⟨f0, f1, f2, f3⟩ := boxf4 hZn
         have cs := cell_set
         obtain ⟨hp1, hp2⟩ := box_put hZn (.int .i64 0) (.int .i64 0) (.int .i64 0) (.slice none 0 0)
         have gE := hp2.grow (gw.trans gN) (Nat.le_refl _)
         obtain ⟨x0, x1, x2, x3⟩ := box4 hp1 rfl rfl rfl rfl
         clear hp1 hp2 hZn hZq gw gN
         go_wp2_with fail
         exact bodyPost_ret (v := .tuple #[.agg #[.int .i64 0, .int .i64 0, .int .i64 0, .slice none 0 0], .int .i64 2]) (by simp [results, Tryd.results7, go_sem, x0, x1, x2, x3]) rfl ⟨⟨_, rfl, none, 0, rfl, bytes_none _⟩, gE⟩
       ·obtain rfl : K = 0 := by rw [HK4.out]; simp [kindAt, e1, e2, e3]
        obtain rfl : PD = (noDd, 1) := by rw [HPD.out]; exact parse_none HWS.out e1 e2 e3
        clear e1 e2 e3 HK4 HPD HWS
        go_wp2_with fail
        refine (rno_any 1 _).mono ?_
        rintro r wN ⟨rfl, gN⟩
        have hZn := (gN.block _ (heap_lt hZq)).trans hZq
        obtain ⟨z0, z1, z2, z3⟩ := box4 hZn rfl rfl rfl rfl
        obtain ⟨f0, f1, f2, f3⟩ := boxf4 hZn
        have cs := cell_set
        obtain ⟨hp1, hp2⟩ := box_put hZn (.int .i64 0) (.int .i64 0) (.int .i64 0) (.slice none 0 0)
        have gE := hp2.grow (gw.trans gN) (Nat.le_refl _)
        obtain ⟨x0, x1, x2, x3⟩ := box4 hp1 rfl rfl rfl rfl
        clear hp1 hp2 hZn hZq gw gN
        go_wp2_with fail
        exact bodyPost_ret (v := .tuple #[.agg #[.int .i64 0, .int .i64 0, .int .i64 0, .slice none 0 0], .int .i64 1]) (by simp [results, Tryd.results7, go_sem, x0, x1, x2, x3]) rfl ⟨⟨_, rfl, none, 0, rfl, bytes_none _⟩, gE⟩
end Go.Proofs.YtgaecpdokgklpabDoor
