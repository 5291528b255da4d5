/-
  The walk of impl's allNames, and the contract of the iterator that it hands back: all letters in order. Plain.
-/
import Derived.Test.YtimcobenmgbciaaGreatDoorJD
import Derived.Test.YtimcobenmgbciaaGreatDoorWAll
import Derived.RangeFuncBound
import Derived.RangeFuncCalls
import Derived.RangeFuncLeaves
import Derived.RangeFuncNested
import Derived.LoopIn
namespace Go.Proofs.YtimcobenmgbciaaGreatDoor
open Go Go.RowKit
attribute [local go_sem] Oper.semAt_some
theorem allNames_any (w : World) : Calls Tryz.prog 22 #[] w fun e w' => e = .returned (.func (.func 36) #[] #[]) ∧ w' = w := by
  go_enter Tryz.func22, Tryz.ntmps22
  go_wp2
  go_ret
  exact ⟨rfl, rfl⟩
theorem rune_next {k : Nat} (hk : k < 26) : IntKind.i32.wrap ((97 + (k : Int)) + 1) = (97 + ((k + 1 : Nat) : Int)) :=
  below26 (p := fun k => IntKind.i32.wrap ((97 + (k : Int)) + 1) = (97 + ((k + 1 : Nat) : Int))) (by decide +kernel) hk
set_option maxRecDepth 100000 in
set_option maxHeartbeats 4000000 in
/-- All letters in order, whatever the loop's body does. -/
theorem names_stops (n : Nat) (hn : 1 ≤ n) (Kp : World → World → Prop) (w : World) :
    SeqStopsK Fence.wide n Tryz.prog 36 #[] (fun x : Fin 26 => #[.int .i32 (97 + (x.1 : Int))]) Kp (fun ys => ys.map Fin.val = List.range 26) (fun pre => pre.map Fin.val <+: List.range 26) 26 w := by
  intro l J Jx W hW _ _ hY h0
  show CallsIn Fence.wide n Tryz.prog 36 #[.func (.yield l) #[] #[]] W _
  refine callsIn_of_wp Tryz.func36 rfl trivial ?_ rfl
  simp only [Tryz.ntmps36, List.size_toArray, List.length_cons, List.length_nil, Nat.reduceAdd, Nat.reduceSub, Array.replicate_succ, Array.replicate_zero, List.push_toArray, List.append_toArray, List.nil_append, List.cons_append]
  gi_wp2
  gi_loopw [2] (fun r wr => ∃ (k : Nat) (pre : List (Fin 26)), r = .int .i32 (97 + (k : Int)) ∧ k ≤ 26 ∧ Hid (pre.map Fin.val = List.range k) ∧ J pre wr) (fun r _ => 123 - (intOf r).toNat)
  case atStart => exact ⟨0, [], rfl, by omega, Lib.hid rfl, h0⟩
  case round =>
    obtain ⟨k, pre, rfl, hk, hpre, hJ⟩ := hrel
    by_cases hlt : k < 26
    · have hlen : pre.length < 26 := by
        have := congrArg List.length hpre.out
        simp at this
        omega
      obtain ⟨fn, tmps, assign, body, hy, hR⟩ := hY pre ⟨k, hlt⟩ wr hJ hlen
      dsimp only at hy
      have HE : Hid ((pre ++ [(⟨k, hlt⟩ : Fin 26)]).map Fin.val = List.range (k + 1)) := Lib.hid (by rw [List.map_append, hpre.out, List.range_succ]; rfl)
      have HR := Lib.hid (hR.mono (R' := fun e W' => ∃ q, e = .returned (.bool q) ∧ Hid ((q = true ∧ J (pre ++ [⟨k, hlt⟩]) W') ∨ (q = false ∧ Jx (pre ++ [⟨k, hlt⟩]) W'))) (by
        rintro e W' (⟨he, h1, _⟩ | ⟨he, h1⟩)
        · exact ⟨true, he, Lib.hid (.inl ⟨rfl, h1⟩)⟩
        · exact ⟨false, he, Lib.hid (.inr ⟨rfl, h1⟩)⟩))
      have hle : (97 + (k : Int)) ≤ 122 := by omega
      have hwr := rune_next hlt
      clear hR hlen hJ
      gi_wp2
      refine HR.out.mono ?_
      rintro e W3 ⟨q, rfl, hq⟩
      rcases hq.out with ⟨rfl, hJ3⟩ | ⟨rfl, hx3⟩
      · gi_wp2
        exact ⟨⟨k + 1, _, rfl, by omega, HE, hJ3⟩, by simp only [intOf]; omega⟩
      · gi_wp2
        refine bodyPost_ret (results_none rfl _ _ _) rfl ?_
        exact ⟨⟨_, rfl⟩, .inr ⟨_, (by rw [HE.out]; exact ⟨List.range' (k + 1) (26 - (k + 1)), by
          rw [List.range_eq_range', List.range_eq_range']
          have := List.range'_append_1 (s := 0) (m := k + 1) (n := 26 - (k + 1))
          rw [Nat.zero_add] at this
          rw [this]
          congr 1
          omega⟩), hx3⟩⟩
    · obtain rfl : k = 26 := by omega
      have hgt : ¬ (97 + ((26 : Nat) : Int)) ≤ 122 := by omega
      gi_wp2
      go_end0
      exact ⟨⟨_, rfl⟩, .inl ⟨pre, hpre.out, hJ⟩⟩
end Go.Proofs.YtimcobenmgbciaaGreatDoor
