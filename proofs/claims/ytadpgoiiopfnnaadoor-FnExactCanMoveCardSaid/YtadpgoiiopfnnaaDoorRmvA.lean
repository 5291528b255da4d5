/-
  A graph without an item: it is valid where the graph is. Plain facts.
-/
import Derived.Test.YtadpgoiiopfnnaaDoorWImplValid
namespace Go.Proofs.YtadpgoiiopfnnaaDoor
open Go Go.RowKit
def rmvSc (b : Nat) (s : Sc) : Sc := ⟨s.parent, s.items.eraseIdx b⟩
/-- The graph without the item b of the scope a. -/
def rmvP : List Sc → Nat → Nat → List Sc
  | [], _, _ => []
  | s :: r, 0, b => rmvSc b s :: r
  | s :: r, a + 1, b => s :: rmvP r a b
theorem rmvP_length : ∀ (ss : List Sc) (a b : Nat), (rmvP ss a b).length = ss.length
  | [], _, _ => rfl
  | s :: r, 0, b => rfl
  | s :: r, a + 1, b => by simp [rmvP, rmvP_length r a b]
theorem rmvP_get : ∀ (ss : List Sc) (a b i : Nat), (rmvP ss a b)[i]? = (ss[i]?).map fun s => if i = a then rmvSc b s else s
  | [], a, b, i => by simp [rmvP]
  | s :: r, 0, b, 0 => by simp [rmvP]
  | s :: r, 0, b, i + 1 => by simp [rmvP]
  | s :: r, a + 1, b, 0 => by simp [rmvP]
  | s :: r, a + 1, b, i + 1 => by simp [rmvP, rmvP_get r a b i]
theorem rmvP_same {ss : List Sc} {a b : Nat} {s : Sc} (h : ss[a]? = some s) : (rmvP ss a b)[a]? = some (rmvSc b s) := by rw [rmvP_get, h]; simp
theorem rmvP_other {ss : List Sc} {a b i : Nat} (h : i ≠ a) : (rmvP ss a b)[i]? = ss[i]? := by
  rw [rmvP_get]
  cases ss[i]? <;> simp [h]
theorem mem_rmvP : ∀ {ss : List Sc} {a b : Nat} {t : Sc}, t ∈ rmvP ss a b → ∃ s ∈ ss, t.parent = s.parent ∧ t.items.Sublist s.items
  | s :: r, 0, b, t, h => by
    have h' : t ∈ rmvSc b s :: r := h
    rcases List.mem_cons.1 h' with rfl | h'
    · exact ⟨s, List.mem_cons_self, rfl, List.eraseIdx_sublist _ _⟩
    · exact ⟨t, List.mem_cons_of_mem _ h', rfl, List.Sublist.refl _⟩
  | s :: r, a + 1, b, t, h => by
    have h' : t ∈ s :: rmvP r a b := h
    rcases List.mem_cons.1 h' with rfl | h'
    · exact ⟨t, List.mem_cons_self, rfl, List.Sublist.refl _⟩
    · obtain ⟨u, h1, h2⟩ := mem_rmvP h'
      exact ⟨u, List.mem_cons_of_mem _ h1, h2⟩
theorem rmv_flat : ∀ (ss : List Sc) (a b i : Nat), (flat i (rmvP ss a b)).Sublist (flat i ss)
  | [], _, _, _ => List.Sublist.refl _
  | _ :: _, 0, _, _ => List.Sublist.append ((List.eraseIdx_sublist _ _).map _) (List.Sublist.refl _)
  | _ :: r, a + 1, b, i => List.Sublist.append (List.Sublist.refl _) (rmv_flat r a b (i + 1))
theorem rmv_parent (ss : List Sc) (a b i : Nat) : (rmvP ss a b)[i]?.map Sc.parent = ss[i]?.map Sc.parent := by
  rw [rmvP_get]
  cases ss[i]? with
  | none => rfl
  | some s => by_cases h : i = a <;> simp [h, rmvSc]
theorem rmv_modB (ss : List Sc) (a b i : Nat) (x : It) : modB (rmvP ss a b) i x = modB ss i x := by
  unfold modB
  rw [rmvP_length, rmv_parent]
theorem Valid.rmv {ss : List Sc} (h : Valid ss) (a b : Nat) : Valid (rmvP ss a b) where
  count := by rw [rmvP_length]; exact h.count
  scopes := fun i t ht => by
    rw [rmvP_get] at ht
    cases hs : ss[i]? with
    | none => rw [hs] at ht; cases ht
    | some s =>
      rw [hs] at ht
      have h1 := h.scopes i s hs
      simp only [Option.map_some, Option.some.injEq] at ht
      subst ht
      by_cases hi : i = a
      · rw [if_pos hi]
        unfold scopeB at h1 ⊢
        simp only [Bool.and_eq_true, decide_eq_true_eq] at h1 ⊢
        exact ⟨Nat.le_trans (List.eraseIdx_sublist s.items b).length_le h1.1, h1.2⟩
      · rw [if_neg hi]; exact h1
  items := ⟨fun q hq => by
      have h1 := h.items.1 q ((rmv_flat ss a b 0).subset hq)
      rw [rmv_modB]
      exact h1, by
      have h2 := h.items.2
      unfold modsOf at h2 ⊢
      exact List.Sublist.nodup (((rmv_flat ss a b 0).map _).filter _ |>.map _) h2⟩
theorem Fair.rmv {ss : List Sc} (h : Fair ss) (a b : Nat) : Fair (rmvP ss a b) where
  count := by rw [rmvP_length]; exact h.count
  items := fun t ht => by
    obtain ⟨s, hs, _, h2⟩ := mem_rmvP ht
    exact Nat.le_trans h2.length_le (h.items s hs)
  fits := ⟨by rw [rmvP_length]; exact h.fits.1, fun t ht => by
    obtain ⟨s, hs, _, h2⟩ := mem_rmvP ht
    have h3 := h.fits.2 s hs
    exact ⟨Nat.le_trans h2.length_le h3.1, fun x hx => h3.2 x (h2.subset hx)⟩⟩
  nums := by
    intro t ht
    obtain ⟨s, hs, h1, h2⟩ := mem_rmvP ht
    have h3 := h.nums s hs
    exact ⟨by rw [h1]; exact h3.1, fun x hx => h3.2 x (h2.subset hx)⟩
end Go.Proofs.YtadpgoiiopfnnaaDoor
