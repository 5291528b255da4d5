/-
  What items mean are declarations with their names. Plain facts.
-/
import Derived.Test.YtgehpaojbnpbcaaGreatDoorJDZ
namespace Go.Proofs.YtgehpaojbnpbcaaGreatDoor
open Go Go.RowKit
theorem nameM_bytes {a b : ByteArray} (h : (a.toList == b.toList) = true) : a = b := by
  rw [beq_iff_eq, ByteArray.toList_eq, ByteArray.toList_eq] at h
  exact ByteArray.ext (Array.ext' h)
theorem own_declM {ss : List Sc} {s : Nat} {nm : ByteArray} {p : Int × Int} (h : p ∈ ownP ss s nm) : ∃ x, itemAtP ss p.1 p.2 = some x ∧ x.kind = 1 ∧ x.name = nm := by
  obtain ⟨c, j, x, hc, hx, ho, rfl⟩ := mem_ownP h
  unfold isOwn at ho
  simp only [Bool.and_eq_true] at ho
  exact ⟨x, by rw [itemAtP_nat hc]; exact hx, by simpa using ho.1, nameM_bytes ho.2⟩
theorem look_declM {ss : List Sc} {imps : Nat → List Nat} {nm : ByteArray} : ∀ {l : List Nat}, ∀ p ∈ (lookF ss imps nm l).places, ∃ x, itemAtP ss p.1 p.2 = some x ∧ x.kind = 1 ∧ x.name = nm
  | [], p, hp => by simp [lookF] at hp
  | m :: r, p, hp => by
    unfold lookF at hp
    split at hp
    · split at hp
      · exact look_declM p hp
      · have h : p ∈ fromP ss (imps m) nm := hp
        unfold fromP at h
        obtain ⟨k, _, hk⟩ := List.mem_flatMap.1 h
        exact own_declM hk
    · exact own_declM hp
theorem meant_declM {ss : List Sc} {s : Nat} {nm : ByteArray} {p : Int × Int} (hp : p ∈ meantP ss s nm) : ∃ x, itemAtP ss p.1 p.2 = some x ∧ x.kind = 1 ∧ x.name = nm := by
  unfold meantP meantF at hp
  split at hp
  · split at hp
    · simp at hp
    · exact look_declM p hp
  · exact own_declM hp
/-- What an item but a declaration means are declarations with its name. -/
theorem mean_declM {ss : List Sc} {q : Nat × Nat × It} (hk : q.2.2.kind = 2 ∨ q.2.2.kind = 3) {p : Int × Int} (hp : p ∈ meanIt ss q) : ∃ x, itemAtP ss p.1 p.2 = some x ∧ x.kind = 1 ∧ x.name = q.2.2.name := by
  unfold meanIt at hp
  split at hp
  · exact look_declM p hp
  · split at hp
    · exact meant_declM hp
    · rename_i h1 h2
      rcases hk with h | h
      · exact absurd h h1
      · exact absurd h h2
theorem kind_cases {ss : List Sc} (hv : Valid ss) {q : Nat × Nat × It} (hq : q ∈ placed 0 ss) : q.2.2.kind = 1 ∨ q.2.2.kind = 2 ∨ q.2.2.kind = 3 := by
  have h3 := hv.items
  rw [← placed_flat] at h3
  have h4 := (h3.1 (q.1, q.2.2) (List.mem_map.2 ⟨q, hq, rfl⟩)).1
  unfold itemB inB at h4
  simp only [Bool.and_eq_true, decide_eq_true_eq] at h4
  omega
end Go.Proofs.YtgehpaojbnpbcaaGreatDoor
