/-
  The walks of the given l6Remove, l6RawRemoveItem and RemoveItem. Condition: the argument's memory holds the graph.
-/
import Derived.Test.YtjogfagjcpcihaaDoorJC
namespace Go.Proofs.YtjogfagjcpcihaaDoor
open Go Go.RowKit
theorem holdsItems_take {w : World} {b off : Nat} {xs : List It} (h : HoldsItems w (some ⟨b, off, none⟩) xs) (k : Nat) : HoldsItems w (some ⟨b, off, none⟩) (xs.take k) := by
  rcases h with h | ⟨b', off', h1, h2, h3⟩
  · exact .inl (by rw [h]; simp)
  · cases h1
    exact .inr ⟨b, off, rfl, h2, fun i x hx => h3 i x (by rw [List.getElem?_take] at hx; split at hx <;> first | exact hx | cases hx)⟩
theorem holdsItems_drop {w : World} {b off : Nat} {xs : List It} (h : HoldsItems w (some ⟨b, off, none⟩) xs) (k : Nat) : HoldsItems w (some ⟨b, off + k * 3, none⟩) (xs.drop k) := by
  rcases h with h | ⟨b', off', h1, h2, h3⟩
  · exact .inl (by rw [h]; simp)
  · cases h1
    refine .inr ⟨b, off + k * 3, rfl, h2, fun i x hx => ?_⟩
    rw [List.getElem?_drop] at hx
    obtain ⟨q0, q1, q2⟩ := h3 (k + i) x hx
    rw [show off + k * 3 + i * 3 = off + (k + i) * 3 by omega]
    exact ⟨q0, q1, q2⟩
theorem OwnGr.rmv2 {w w1 : World} {B g cap i j : Nat} {ss : List Sc} {hs : List Value} {s : Sc} {u' : Value} (h : OwnGr w B (.slice (some ⟨g, 0, none⟩) ss.length cap) ss hs) (hs' : ss[i]? = some s)
    (hb : Below w.heap.size w w1) (hB : B ≤ w.heap.size) (hown : w1.ownsRow w.heap.size 42 3 u' (s.items.eraseIdx j).length (itemCells (s.items.eraseIdx j))) :
    OwnGr (w1.setCell ⟨g, i * 2 + 1, none⟩ u') B (.slice (some ⟨g, 0, none⟩) ss.length cap) (rmvP ss i j) (hs.set i u') := by
  have hil := (List.getElem?_eq_some_iff.1 hs').1
  obtain ⟨u, hu⟩ : ∃ u, hs[i]? = some u := ⟨_, List.getElem?_eq_getElem (by rw [h.len]; exact hil)⟩
  have hrow1 := ownsRow_below h.row hb
  obtain ⟨vs, hR⟩ := ownsRow_row hrow1
  have hat : ∀ (k : Nat) (z : Value), (hs.set i u')[k]? = some z → (k = i ∧ z = u') ∨ (k ≠ i ∧ hs[k]? = some z) := fun k z hz => by
    by_cases hk : k = i
    · subst hk
      rw [List.getElem?_set_self (List.getElem?_eq_some_iff.1 hu).1] at hz
      exact .inl ⟨rfl, (Option.some.inj hz).symm⟩
    · rw [List.getElem?_set_ne (fun e => hk e.symm)] at hz
      exact .inr ⟨hk, hz⟩
  have old : ∀ (k : Nat) (z : Value), hs[k]? = some z → ∀ q, z.ownBlock = some q → q < w.heap.size := fun k z hz q hq => by
    obtain ⟨t, ht⟩ : ∃ t, ss[k]? = some t := ⟨_, List.getElem?_eq_getElem (by rw [← h.len]; exact (List.getElem?_eq_some_iff.1 hz).1)⟩
    exact ((h.items k t z ht hz).lt q hq).2
  have new : ∀ q, u'.ownBlock = some q → w.heap.size ≤ q := fun q hq => (hown.lt q hq).1
  refine ⟨by rw [List.length_set, rmvP_length]; exact h.len, ?_, fun k t z ht hz => ?_, fun a b z z' hab hz hz' => ?_⟩
  · rw [rmvP_length, scRow_rmv i j u' h.len hil]
    exact ownsRow_set hrow1 (by rw [scRow_length h.len]; omega) u'
  · rcases hat k z hz with ⟨rfl, rfl⟩ | ⟨hk, hz2⟩
    · rw [rmvP_same hs'] at ht
      obtain rfl := Option.some.inj ht
      exact (ownsRow_otherN hown hR (by decide) _ _).mono hB
    · rw [rmvP_other hk] at ht
      exact ownsRow_otherN (ownsRow_below (h.items k t z ht hz2) hb) hR (by decide) _ _
  · rcases hat a z hz with ⟨rfl, rfl⟩ | ⟨ha, hz2⟩ <;> rcases hat b z' hz' with ⟨rfl, rfl⟩ | ⟨hb2, hz3⟩
    · exact absurd rfl hab
    · cases hq : z.ownBlock with
      | none => exact .inl rfl
      | some q => exact .inr fun e => by have h1 := new q hq; have h2 := old b z' hz3 q e.symm; omega
    · cases hq : z.ownBlock with
      | none => exact .inl rfl
      | some q => exact .inr fun e => by have h1 := new q e.symm; have h2 := old a z hz2 q hq; omega
    · exact h.apart a b z z' hab hz2 hz3
end Go.Proofs.YtjogfagjcpcihaaDoor
