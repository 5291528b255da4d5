/-
  The text of a list of places, and how a loop comes to it. Plain facts.
-/
import Derived.Lib.ItoaLen
import Derived.Lib.Join
namespace Go.Proofs.YthjmgpjbpnaneaaDoor.Sg
open Go Go.Lib
/-- A number of 64 bits. -/
def I64 (n : Int) : Prop := -9223372036854775808 ≤ n ∧ n ≤ 9223372036854775807
def pText (p : Int × Int) : List UInt8 := itoa p.1 ++ 46 :: itoa p.2
/-- The texts of the first k places, with blanks between them. -/
def outTo (ps : List (Int × Int)) (k : Nat) : List UInt8 := join ((ps.take k).map pText) [32]
def placesText (ps : List (Int × Int)) : List UInt8 := if ps = [] then [45] else join (ps.map pText) [32]
theorem pText_len {p : Int × Int} (h1 : I64 p.1) (h2 : I64 p.2) : (pText p).length ≤ 43 := by
  have a := itoa_length_le p.1 h1.1 h1.2
  have b := itoa_length_le p.2 h2.1 h2.2
  unfold pText; simp; omega
theorem pText_ne (p : Int × Int) : pText p ≠ [] := by unfold pText; simp
theorem join_snoc (xs : List (List UInt8)) (x : List UInt8) (h : xs ≠ []) : join (xs ++ [x]) [32] = join xs [32] ++ 32 :: x := by
  induction xs with
  | nil => exact absurd rfl h
  | cons y r ih =>
    cases r with
    | nil => simp [join, List.intercalate]
    | cons z t =>
      have := ih (by simp)
      simp only [join, List.intercalate, List.cons_append] at this ⊢
      simp only [List.intersperse_cons_cons, List.flatten_cons, List.append_assoc] at this ⊢
      rw [this]
theorem outTo_zero (ps : List (Int × Int)) : outTo ps 0 = [] := by simp [outTo, join_nil]
theorem outTo_one {ps : List (Int × Int)} {p : Int × Int} (h : ps[0]? = some p) : outTo ps 1 = pText p := by
  cases ps with
  | nil => simp at h
  | cons q r => simp at h; subst h; simp [outTo, join_one]
theorem outTo_succ {ps : List (Int × Int)} {k : Nat} {p : Int × Int} (hk : 0 < k) (h : ps[k]? = some p) : outTo ps (k + 1) = outTo ps k ++ 32 :: pText p := by
  have hl := (List.getElem?_eq_some_iff.1 h).1
  unfold outTo
  rw [List.take_add_one, h, List.map_append]
  exact join_snoc _ _ (by intro e; have := congrArg List.length e; rw [List.length_map, List.length_take, List.length_nil] at this; omega)
theorem outTo_len {ps : List (Int × Int)} (hp : ∀ p ∈ ps, I64 p.1 ∧ I64 p.2) : ∀ k, k ≤ ps.length → (outTo ps k).length ≤ 44 * k
  | 0, _ => by rw [outTo_zero]; simp
  | k + 1, h => by
    have hk : k < ps.length := by omega
    have hg : ps[k]? = some ps[k] := List.getElem?_eq_getElem hk
    obtain ⟨a, b⟩ := hp ps[k] (List.getElem_mem hk)
    have hl := pText_len a b
    have ih := outTo_len hp k (by omega)
    rcases Nat.eq_zero_or_pos k with h0 | h0
    · subst h0; rw [outTo_one hg]; omega
    · rw [outTo_succ h0 hg]; simp; omega
theorem outTo_all (ps : List (Int × Int)) : outTo ps ps.length = join (ps.map pText) [32] := by unfold outTo; rw [List.take_length]
theorem outTo_ne {ps : List (Int × Int)} {k : Nat} (h0 : 0 < k) (hk : k ≤ ps.length) : outTo ps k ≠ [] := by
  obtain ⟨j, rfl⟩ : ∃ j, k = j + 1 := ⟨k - 1, by omega⟩
  have hg : ps[j]? = some ps[j] := List.getElem?_eq_getElem (by omega)
  rcases Nat.eq_zero_or_pos j with h | h
  · subst h; rw [outTo_one hg]; exact pText_ne _
  · rw [outTo_succ h hg]; simp
end Go.Proofs.YthjmgpjbpnaneaaDoor.Sg
