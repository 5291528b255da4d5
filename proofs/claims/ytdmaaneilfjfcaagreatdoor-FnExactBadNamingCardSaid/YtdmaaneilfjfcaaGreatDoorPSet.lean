/-
  Sets of places as arrays of truths: impl's placeSet.has and placeSet.add, and the walk of (*lookup).seen. Conditions: the lookup lies in memory.
-/
import Derived.Test.YtdmaaneilfjfcaaGreatDoorWPickI
import Derived.Laws.Rows
namespace Go.Proofs.YtdmaaneilfjfcaaGreatDoor
open Go Go.RowKit Go.Maps
/-- The cells of a set of places: place (i, j) in cell i * 5 + j. -/
def psetL (f : Nat → Bool) : List Value := (List.range 30).map fun k => .bool (f k)
theorem psetL_length (f : Nat → Bool) : (psetL f).length = 30 := by simp [psetL]
theorem psetL_get (f : Nat → Bool) {k : Nat} (hk : k < 30) : (psetL f)[k]? = some (.bool (f k)) := by
  unfold psetL
  rw [List.getElem?_map, List.getElem?_range hk]
  rfl
theorem psetL_congr {f g : Nat → Bool} (h : ∀ k, k < 30 → f k = g k) : psetL f = psetL g := by
  unfold psetL
  exact List.map_congr_left fun k hk => by rw [h k (List.mem_range.1 hk)]
theorem psetL_set (f : Nat → Bool) (k : Nat) : (psetL f).set k (.bool true) = psetL fun i => f i || i == k := by
  apply List.ext_getElem?
  intro i
  rw [List.getElem?_set]
  by_cases hi : i < 30
  · rw [psetL_get _ hi, psetL_get _ hi, psetL_length]
    by_cases hk : k = i
    · subst hk
      simp [hi]
    · have hk' : (i == k) = false := by simpa using fun h => hk h.symm
      rw [if_neg hk, hk', Bool.or_false]
  · have h1 : (psetL f)[i]? = none := List.getElem?_eq_none (by rw [psetL_length]; omega)
    have h2 : (psetL fun i => f i || i == k)[i]? = none := List.getElem?_eq_none (by rw [psetL_length]; omega)
    rw [h1, h2, psetL_length]
    by_cases hk : k = i
    · rw [if_pos hk, if_neg (by omega)]
    · rw [if_neg hk]
/-- Is the place with this number in a list? -/
def inPl (l : List (Int × Int)) (q : Nat) : Bool := l.any fun p => p.1 * 5 + p.2 == (q : Int)
theorem inPl_snoc (l : List (Int × Int)) (i j : Nat) (q : Nat) : inPl (l ++ [((i : Int), (j : Int))]) q = (inPl l q || q == i * 5 + j) := by
  unfold inPl
  rw [List.any_append]
  congr 1
  simp only [List.any_cons, List.any_nil, Bool.or_false]
  rw [Bool.eq_iff_iff]
  simp only [beq_iff_eq]
  omega
/-- Places of scopes that there can be. -/
def SmallPls (l : List (Int × Int)) : Prop := ∀ p ∈ l, ∃ i j : Nat, p = ((i : Int), (j : Int)) ∧ i < 6 ∧ j < 5
theorem small_places {ss : List Sc} (hv : Valid ss) {l : List (Int × Int)} (h : ∀ p ∈ l, IsPlace ss p) : SmallPls l := by
  intro p hp
  obtain ⟨i, j, c, x, rfl, hc, hx⟩ := h p hp
  have h1 := (List.getElem?_eq_some_iff.1 hc).1
  have h2 := (List.getElem?_eq_some_iff.1 hx).1
  have h3 := hv.count.2
  have h4 := hv.five c (List.mem_of_getElem? hc)
  exact ⟨i, j, rfl, by omega, by omega⟩
end Go.Proofs.YtdmaaneilfjfcaaGreatDoor
namespace Go.Proofs.YtdmaaneilfjfcaaGreatDoor
open Go Go.RowKit Go.Maps
attribute [local go_sem ↓] field_places
/-- The places that are found for the first k letters. -/
def seenUp (ss : List Sc) (s : Nat) : Nat → Nat → Bool
  | 0, _ => false
  | k + 1, q => seenUp ss s k q || inPl (lookP ss s (letterB k)).places q
theorem owns_block {w : World} {base n size b off len cap : Nat} {e : TypeId} {xs : List Value} (h : w.ownsRow base e size (.slice (some ⟨b, off, none⟩) len cap) n xs) : base ≤ b := by
  obtain ⟨_, h2 | ⟨g, c, cur, hv, hB, _⟩⟩ := h
  · have := h2.1
    simp at this
  · simp only [Value.slice.injEq, Option.some.injEq, Addr.mk.injEq] at hv
    omega
theorem below_setRow (W : World) (g : Nat) (cs : Array Value) {N : Nat} (hg : N ≤ g) : Below N W (W.setRow g cs) :=
  ⟨rfl, rfl, rfl, by simp, fun k hk => setRow_other W g k cs (by omega)⟩
theorem psetL_one (f : Nat → Bool) : (psetL f).toArray.all (·.oneCell') = true := by
  have h : ∀ v ∈ psetL f, v.oneCell' = true := by
    intro v hv
    unfold psetL at hv
    obtain ⟨k, _, rfl⟩ := List.mem_map.1 hv
    rfl
  rw [Array.all_eq_true]
  intro i hi
  have h1 := h _ (List.getElem_mem (l := psetL f) (n := i) (by simpa using hi))
  simpa using h1
end Go.Proofs.YtdmaaneilfjfcaaGreatDoor
