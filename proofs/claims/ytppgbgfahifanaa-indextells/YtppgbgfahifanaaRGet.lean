/-
  What the document's GetBlock and PutBlock tell of any disk.
  Condition: the disk lies in memory.
-/
import Derived.Test.YtppgbgfahifanaaRDisk
namespace Go.Proofs.Ytppgbgfahifanaa
set_option maxRecDepth 100000
open Go.RowKit
open Go.Proofs.Ytppgbgfahifanaa.Plain Go.Proofs.Ytppgbgfahifanaa.Reg

/-- What was written last of a block. -/
def lastW (ws : List Wr) (a : Int) : Option (List UInt8) := ws.foldl (fun r x => if x.1 = a then some x.2 else r) none
theorem lastW_snoc (ws : List Wr) (x : Wr) (a : Int) : lastW (ws ++ [x]) a = if x.1 = a then some x.2 else lastW ws a := by simp [lastW, List.foldl_append]
theorem lastW_take (ws : List Wr) (a : Int) (k : Nat) (h : k < ws.length) : lastW (ws.take (k + 1)) a = if ws[k].1 = a then some ws[k].2 else lastW (ws.take k) a := by
  rw [List.take_succ_eq_append_getElem h, lastW_snoc]
/-- What is read of a block: none, where there is no such block. -/
def Dk.get (d : Dk) (a : Int) : Option (List UInt8) := if a < 0 ∨ (d.blocks.length : Int) ≤ a then none else some ((lastW d.late a).getD (d.blocks.getD a.toNat []))
def Dk.getE (d : Dk) (a : Int) : Int := if a < 0 ∨ (d.blocks.length : Int) ≤ a then 3 else 0
set_option maxHeartbeats 2000000 in
theorem getBlock_any (S : Nat → Prop) (d : Dk) (a : Int) (vb vl : Value) (w : World) (hb : BlocksS S w vb d.blocks) (hl : LateS S w vl d.late) (hm2 : d.late.length ≤ 140737488355328) :
    Calls Try.prog 42 #[.agg #[vb, vl], .int .i64 a] w fun e w' => ∃ v, e = .returned (.tuple #[v, .int .i64 (d.getE a)]) ∧ BytesS S w' v ((d.get a).getD []) ∧ Grow w w' := by
  obtain ⟨ab, cb, rfl⟩ := hb.p.form
  obtain ⟨al, cl, rfl⟩ := hl.p.form
  by_cases hout : a < 0 ∨ (d.blocks.length : Int) ≤ a
  · have HE : Hid (d.getE a = 3) := by show d.getE a = 3; unfold Dk.getE; rw [if_pos hout]
    have HG : Hid (d.get a = none) := by show d.get a = none; unfold Dk.get; rw [if_pos hout]
    rw [HE.out, HG.out]
    by_cases h0 : a < 0
    · go_enter Try.func42, Try.ntmps42
      go_wp2_with fail
      go_ret2
      exact ⟨_, rfl, .inl ⟨none, 0, rfl, rfl, fun _ => rfl⟩, grow_alloc _ _⟩
    · have h1 : (d.blocks.length : Int) ≤ a := by omega
      clear hout
      go_enter Try.func42, Try.ntmps42
      go_wp2_with fail
      go_ret2
      exact ⟨_, rfl, .inl ⟨none, 0, rfl, rfl, fun _ => rfl⟩, grow_alloc _ _⟩
  · have HE : Hid (d.getE a = 0) := by show d.getE a = 0; unfold Dk.getE; rw [if_neg hout]
    have HG : Hid (d.get a = some ((lastW d.late a).getD (d.blocks.getD a.toNat []))) := by show d.get a = _; unfold Dk.get; rw [if_neg hout]
    rw [HE.out, HG.out, Option.getD_some]
    obtain ⟨p, rfl⟩ := Int.eq_ofNat_of_zero_le (by omega : 0 ≤ a)
    have hp : p < d.blocks.length := by omega
    clear hout
    rw [Int.toNat_natCast]
    have gW := grow_alloc w (.cells #[.slice ab d.blocks.length cb, .slice al d.late.length cl] 46)
    have hx := heap_new w #[.slice ab d.blocks.length cb, .slice al d.late.length cl] 46
    have hbW := hb.grow gW
    have hlW := hl.grow gW
    clear hb hl
    go_enter Try.func42, Try.ntmps42
    go_wp2_with fail
    generalize World.alloc w _ = W at *
    have x0 := box_cell hx 0 _ rfl
    have x1 := box_cell hx 1 _ rfl
    go_loop [6] (fun i => ∃ k : Nat, k ≤ d.late.length ∧ i = .int .i64 ((k : Int) - 1) ∧ lastW d.late p = lastW (d.late.take k) p) (fun i => (intOf i + 1).toNat)
    case atStart => exact ⟨d.late.length, Nat.le_refl _, rfl, by rw [List.take_length]⟩
    case round =>
      obtain ⟨k, hk, rfl, hla⟩ := hrel
      have HLA : Hid (lastW d.late p = lastW (d.late.take k) p) := hla
      clear hla
      match k, hk, HLA with
      | 0, hk, HLA =>
        have HB : Hid (lastW d.late p = none) := HLA
        obtain ⟨b, off, rfl, u, hu, hub⟩ := hbW.at p hp
        obtain ⟨au, cu, rfl, -, -⟩ := bytes_src hub.p
        clear HLA
        go_wp2_with fail
        go_ret2
        refine ⟨_, rfl, ?_, gW⟩
        rw [HB.out, Option.getD_none]
        exact hub
      | k + 1, hk, HLA =>
        have hkl : k < d.late.length := by omega
        obtain ⟨b, off, rfl, hc0, u, hu, hub⟩ := hlW.at k hkl
        obtain ⟨au, cu, rfl, -, -⟩ := bytes_src hub.p
        have hst := lastW_take d.late p k hkl
        by_cases he : d.late[k].1 = (p : Int)
        · rw [he] at hc0
          rw [if_pos he] at hst
          have HV : Hid (lastW d.late p = some d.late[k].2) := HLA.out.trans hst
          clear HLA hst he
          have e1 : ((k + 1 : Nat) : Int) - 1 = (k : Int) := by omega
          rw [e1]
          clear e1
          go_wp2_with fail
          go_ret2
          refine ⟨_, rfl, ?_, gW⟩
          rw [HV.out, Option.getD_some]
          exact hub
        · rw [if_neg he] at hst
          have HV : Hid (lastW d.late p = lastW (d.late.take k) p) := HLA.out.trans hst
          have d2 : (d.late[k].1 == (p : Int)) = false := beq_false' he
          clear HLA hst he hub
          generalize d.late[k].1 = q at *
          have e1 : ((k + 1 : Nat) : Int) - 1 = (k : Int) := by omega
          rw [e1]
          clear e1
          go_wp2_with fail
          go_round
          case rel => exact ⟨k, by omega, by go_num, HV.out⟩
          case measure => simp [intOf]

theorem hx1 (w : World) (c e : Array Value) : ((w.alloc (.cells c 46)).alloc (.cells e 46)).heap[w.heap.size]? = some (.cells c 46 (0, 0)) :=
  ((grow_alloc (w.alloc (.cells c 46)) _).block _ (by simp)).trans (heap_new _ _ _)
theorem own_slice2 {w : World} {base n size : Nat} {e : TypeId} {v : Value} {xs : List Value} (h : w.ownsRow base e size v n xs) : ∃ ao cap, v = .slice ao n cap := by
  rcases h.2 with ⟨h1, h0⟩ | ⟨g, cap, cur, rfl, hb, _⟩
  · subst h0; exact ⟨none, 0, h1⟩
  · exact ⟨_, cap, rfl⟩
end Go.Proofs.Ytppgbgfahifanaa
