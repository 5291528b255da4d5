/-
  The walk of the laws' sgIn: whether a place is in a list. Condition: the list's memory holds it. Plain facts.
-/
import Derived.Test.YtjogfagjcpcihaaGreatDoorJEZ
namespace Go.Proofs.YtjogfagjcpcihaaGreatDoor
open Go Go.RowKit
set_option maxRecDepth 100000 in
set_option maxHeartbeats 1600000 in
theorem sgIn_any (ps : List (Int × Int)) (oa : Option Addr) (cap : Nat) (a b : Int) (w : World) (hn : ps.length ≤ 1000000) (ha : ArgPlaces w oa ps) :
    Calls Tryz.prog 32 #[.slice oa ps.length cap, .agg #[.int .i64 a, .int .i64 b]] w fun e w' => e = .returned (.bool (decide ((a, b) ∈ ps))) ∧ Below w.heap.size w w' := by
  have hb0 := (Below.refl w.heap.size w).alloc (Nat.le_refl _) (.cells #[.int .i64 a, .int .i64 b] 26)
  have RP := Lib.hid (Row.new w [.int .i64 a, .int .i64 b] 26)
  have HB0 := Lib.hid hb0
  have HA := Lib.hid ha
  clear hb0 ha
  go_enter Tryz.func32, Tryz.ntmps32
  go_wp2
  go_loopw [9] (fun i wr => ∃ k : Nat, i = .int .i64 k ∧ k ≤ ps.length ∧ Hid ((a, b) ∉ ps.take k) ∧ Hid (Below w.heap.size w wr ∧ Row wr w.heap.size 26 [.int .i64 a, .int .i64 b])) (fun i _ => ps.length - (intOf i).toNat)
  case atStart => exact ⟨0, rfl, Nat.zero_le _, Lib.hid (by simp), Lib.hid ⟨HB0.out, RP.out⟩⟩
  case round =>
    obtain ⟨k, rfl, hk, HN, HW⟩ := hrel
    by_cases hlt : k < ps.length
    · obtain ⟨p, hp⟩ : ∃ p, ps[k]? = some p := ⟨_, List.getElem?_eq_getElem hlt⟩
      obtain ⟨c, d⟩ := p
      obtain ⟨b1, f1, rfl, hb1, q1⟩ := (HA.out.below HW.out.1).at (by omega)
      obtain ⟨c0, c1⟩ := q1 k _ hp
      have HM := Lib.hid hp
      have hbP := (Below.refl wr.heap.size wr).alloc (Nat.le_refl _) (.cells #[.int .i64 c, .int .i64 d] 26)
      have HW2 := Lib.hid (And.intro (HW.out.1.trans (hbP.mono HW.out.1.size)) (HW.out.2.below hbP HW.out.2.lt))
      have r0 := HW2.out.2.cell (i := 0) (v := .int .i64 a) (by rfl)
      have r1 := HW2.out.2.cell (i := 1) (v := .int .i64 b) (by rfl)
      dsimp only at c0 c1
      have HSN : Hid ((a, b) ≠ (c, d) → (a, b) ∉ ps.take (k + 1)) := Lib.hid (by
        intro h
        rw [List.take_add_one, hp]
        simp only [Option.toList_some, List.mem_append, List.mem_singleton, not_or]
        exact ⟨HN.out, h⟩)
      clear hp hbP q1 hb1
      by_cases h1 : c = a
      · subst h1
        by_cases h2 : d = b
        · subst h2
          have HD : Hid (decide ((c, d) ∈ ps) = true) := Lib.hid (decide_eq_true (List.mem_of_getElem? HM.out))
          go_wp2
          go_ret
          exact ⟨by rw [HD.out]; rfl, HW2.out.1⟩
        · have HNX := Lib.hid (HSN.out (fun e => h2 (Prod.mk.inj e).2.symm))
          go_wp2
          go_roundw
          case rel => exact ⟨k + 1, by go_num, by omega, HNX, HW2⟩
          case measure => simp only [intOf]; omega
      · have HNX := Lib.hid (HSN.out (fun e => h1 (Prod.mk.inj e).1.symm))
        go_wp2
        go_roundw
        case rel => exact ⟨k + 1, by go_num, by omega, HNX, HW2⟩
        case measure => simp only [intOf]; omega
    · obtain rfl : k = ps.length := by omega
      have HD : Hid (decide ((a, b) ∈ ps) = false) := Lib.hid (decide_eq_false (by have := HN.out; rwa [List.take_length] at this))
      go_wp2
      go_ret
      exact ⟨by rw [HD.out]; rfl, HW.out.1⟩
end Go.Proofs.YtjogfagjcpcihaaGreatDoor
