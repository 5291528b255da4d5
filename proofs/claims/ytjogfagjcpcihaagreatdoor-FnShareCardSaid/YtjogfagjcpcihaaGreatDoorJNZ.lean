/-
  With which names all items mean the same: exactly if no declaration that is met on the way to what an item means has its letter. Plain facts. Namings in the order of the alphabet in which each letter stands only behind those before it: all of them, and which one comes behind which. Plain facts. Two declarations that have one letter: which namings are good, by which two can share one. Plain facts.
-/
import Derived.Test.YtjogfagjcpcihaaGreatDoorJFZ
import Derived.Test.YtjogfagjcpcihaaGreatDoorBaseZ
namespace Go.Proofs.YtjogfagjcpcihaaGreatDoor
open Go Go.RowKit
section lists
variable {α : Type}
end lists
section ren
variable (ss : List Sc) (f : NameF)
end ren
end Go.Proofs.YtjogfagjcpcihaaGreatDoor
namespace Go.Proofs.YtjogfagjcpcihaaGreatDoor
open Go Go.RowKit
end Go.Proofs.YtjogfagjcpcihaaGreatDoor
namespace Go.Proofs.YtjogfagjcpcihaaGreatDoor
open Go Go.RowKit
/-- A text of letters by their numbers. -/
def txtN (l : List Nat) : ByteArray := ⟨(l.map fun k => UInt8.ofNat (97 + k)).toArray⟩
theorem txtN_list (l : List Nat) : (txtN l).data.toList = l.map fun k => UInt8.ofNat (97 + k) := by simp [txtN]
theorem txtN_size (l : List Nat) : (txtN l).size = l.length := by show (txtN l).data.size = _; rw [← Array.length_toList, txtN_list, List.length_map]
theorem txtN_naming {l : List Nat} (h : ∀ k ∈ l, k < 25) : Naming (txtN l) l.length := by
  refine ⟨txtN_size l, fun b hb => ?_⟩
  rw [txtN_list] at hb
  obtain ⟨k, hk, rfl⟩ := List.mem_map.1 hb
  have := h k hk
  have e : (UInt8.ofNat (97 + k)).toNat = 97 + k := by rw [UInt8.toNat_ofNat']; exact Nat.mod_eq_of_lt (by omega)
  omega
/-- The graph with letters by their numbers is as good as the graph. -/
def goodN (ss : List Sc) (l : List Nat) : Prop := chgA ss (nmgG ss (txtN l)) = []
instance (ss : List Sc) (l : List Nat) : Decidable (goodN ss l) := inferInstanceAs (Decidable (_ = _))
/-- The letters in order, for the later one of two that of the earlier one. -/
def pairL (n i j : Nat) : List Nat := (List.range n).set (max i j) (min i j)
theorem pairL_length (n i j : Nat) : (pairL n i j).length = n := by simp [pairL]
theorem pairL_get {n i j k : Nat} (hk : k < n) : (pairL n i j)[k]? = some (if k = max i j then min i j else k) := by
  unfold pairL
  rw [List.getElem?_set]
  by_cases h : max i j = k
  · rw [if_pos h, if_pos (by rw [List.length_range]; omega), if_pos h.symm]
  · rw [if_neg h, if_neg (fun e => h e.symm)]
    simp [hk]
theorem pairL_lt {n i j : Nat} (hi : i < n) (_ : j < n) (hn : n ≤ 25) : ∀ k ∈ pairL n i j, k < 25 := by
  intro k hk
  obtain ⟨a, ha⟩ := List.mem_iff_getElem?.1 hk
  have hal : a < n := by have := (List.getElem?_eq_some_iff.1 ha).1; rwa [pairL_length] at this
  rw [pairL_get hal] at ha
  have := Option.some.inj ha
  split at this <;> omega
end Go.Proofs.YtjogfagjcpcihaaGreatDoor
