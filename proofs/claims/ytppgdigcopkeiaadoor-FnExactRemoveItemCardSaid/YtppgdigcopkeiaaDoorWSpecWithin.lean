/-
  The walks of the given l2In, WithinOf and CommonScope. Condition: the argument's memory holds the graph.
-/
import Derived.Test.YtppgdigcopkeiaaDoorWMarkGraph
namespace Go.Proofs.YtppgdigcopkeiaaDoor
open Go Go.RowKit
set_option maxRecDepth 100000 in
theorem l2In_any (xs : List Int) (oa : Option Addr) (cap : Nat) (n : Int) (w : World) (hn : xs.length < 2 ^ 40) (h : HoldsInts w oa xs) :
    Calls Tryd.prog 113 #[.slice oa xs.length cap, .int .i64 n] w fun e w' => e = .returned (.bool (decide (n ∈ xs))) ∧ Below w.heap.size w w' := by
  have K := Lib.hid h
  clear h
  go_enter Tryd.func113, Tryd.ntmps113
  go_wp2
  go_loopw [9] (fun i wr => ∃ k : Nat, i = .int .i64 k ∧ k ≤ xs.length ∧ Hid (n ∉ xs.take k) ∧ Below w.heap.size w wr) (fun i _ => xs.length - (intOf i).toNat)
  case atStart => exact ⟨0, rfl, Nat.zero_le _, Lib.hid (by simp), Below.refl _ _⟩
  case round =>
    obtain ⟨k, rfl, hk, hno, hb⟩ := hrel
    by_cases hlt : k < xs.length
    · obtain ⟨x, hx⟩ : ∃ x, xs[k]? = some x := ⟨_, List.getElem?_eq_getElem hlt⟩
      obtain ⟨b1, f1, rfl, hb1, q1⟩ := K.out.at (by omega)
      have a0 := (hb.cell (p := ⟨b1, f1 + k, none⟩) hb1).trans (q1 k x hx)
      have HX := Lib.hid hx
      clear hx q1
      by_cases he : x = n
      · have HM : Hid (n ∈ xs) := Lib.hid (by rw [← he]; exact List.mem_of_getElem? HX.out)
        have hq : (x == n) = true := by simpa using he
        clear he
        go_wp2
        go_ret
        exact ⟨by simp [HM.out], hb⟩
      · have HN : Hid (n ∉ xs.take (k + 1)) := Lib.hid (by
          rw [List.take_add_one, HX.out]
          simp only [Option.toList_some, List.mem_append, List.mem_singleton, not_or]
          exact ⟨hno.out, fun e => he e.symm⟩)
        have hq : (x == n) = false := by simpa using he
        clear he
        go_wp2
        go_roundw
        case rel => exact ⟨k + 1, by go_num, by omega, HN, hb⟩
        case measure => simp only [intOf]; omega
    · obtain rfl : k = xs.length := by omega
      have HN : Hid (n ∉ xs) := Lib.hid (by have := hno.out; rwa [List.take_length] at this)
      go_wp2
      go_ret
      exact ⟨by simp [HN.out], hb⟩
theorem mem_natInts {l : List Nat} {n : Nat} : (n : Int) ∈ natInts l ↔ n ∈ l := by
  unfold natInts
  rw [List.mem_map]
  constructor
  · rintro ⟨m, hm, e⟩
    obtain rfl : m = n := by omega
    exact hm
  · exact fun h => ⟨n, h, rfl⟩
theorem natInts_length (l : List Nat) : (natInts l).length = l.length := by simp [natInts]
/-- What l2Chain leaves, as a list that holds numbers. -/
theorem NumsGot.val {l : List Nat} {w w' : World} {e : Ending} (h : NumsGot l w e w') : ∃ oa cap, e = .returned (.slice oa (natInts l).length cap) ∧ HoldsInts w' oa (natInts l) ∧ Below w.heap.size w w' := by
  obtain ⟨v, rfl, hr, hb⟩ := h
  obtain ⟨oa, cap, rfl, hh⟩ := holdsInts_of_owns hr
  exact ⟨oa, cap, rfl, hh, hb⟩
/-- Is a scope one of a chain? As a call answers it. -/
theorem within_snoc (ss : List Sc) (s k : Nat) : ((List.range (k + 1)).filter fun m => decide (s ∈ chainP ss m)) = ((List.range k).filter fun m => decide (s ∈ chainP ss m)) ++ if s ∈ chainP ss k then [k] else [] := by
  rw [List.range_succ, List.filter_append]
  congr 1
  by_cases h : s ∈ chainP ss k
  · simp [h]
  · simp [h]
theorem within_length (ss : List Sc) (s k : Nat) : ((List.range k).filter fun m => decide (s ∈ chainP ss m)).length ≤ k := by
  have := List.length_filter_le (fun m => decide (s ∈ chainP ss m)) (List.range k)
  simpa using this
end Go.Proofs.YtppgdigcopkeiaaDoor
