/-
  Sharing names goes both ways, and so do conflicts; what can be shared is what is in no conflict. Plain facts; no condition.
-/
import Derived.Test.YtjogfagjcpcihaaGreatDoorJRZ
namespace Go.Proofs.YtjogfagjcpcihaaGreatDoor
open Go Go.RowKit Go.Maps
theorem pairL_comm (n i j : Nat) : pairL n i j = pairL n j i := by unfold pairL; rw [Nat.max_comm, Nat.min_comm]
theorem share_comm {ss : List Sc} {p q : Int × Int} (h : ShareP ss p q) : ShareP ss q p := by
  obtain ⟨h1, h2, h3, h4, h5, h6⟩ := h
  exact ⟨h1, h2, h4, h3, fun e => h5 e.symm, by rw [pairL_comm]; exact h6⟩
theorem conflP_mem {ss : List Sc} {p q : Int × Int} (hp : p ∈ dclP ss) : q ∈ conflP ss p ↔ q ∈ dclP ss ∧ q ≠ p ∧ ¬ goodN ss (pairL (dclP ss).length (posOf (dclP ss) p).toNat (posOf (dclP ss) q).toNat) := by
  obtain ⟨i, hi, hil, hip⟩ := pos_nat hp
  unfold conflP
  rw [cfUp_mem, hi]
  constructor
  · rintro ⟨k, hk, hkq, hne, hng⟩
    have hpk := posOf_at (dcl_nodup ss) hkq
    refine ⟨List.mem_of_getElem? hkq, ?_, ?_⟩
    · rintro rfl
      rw [hpk] at hi
      exact hne (by have := hi.symm; simp at this ⊢; omega)
    · rw [hpk]; exact hng
  · rintro ⟨hq, hne, hng⟩
    obtain ⟨k, hk, hkl, hkq⟩ := pos_nat hq
    rw [hk] at hng
    refine ⟨k, hkl, hkq, ?_, hng⟩
    intro e
    have e' : i = k := by simpa using e
    subst e'
    rw [hip] at hkq
    exact hne (Option.some.inj hkq).symm
theorem confl_comm {ss : List Sc} {p q : Int × Int} (hp : p ∈ dclP ss) (h : q ∈ conflP ss p) : q ∈ dclP ss ∧ p ∈ conflP ss q := by
  obtain ⟨h1, h2, h3⟩ := (conflP_mem hp).1 h
  exact ⟨h1, (conflP_mem h1).2 ⟨hp, fun e => h2 e.symm, by rw [pairL_comm]; exact h3⟩⟩
theorem share_iffC {ss : List Sc} {p q : Int × Int} (h : conflOk ss p) : ShareP ss p q ↔ p ≠ q ∧ q ∈ dclP ss ∧ q ∉ conflP ss p := by
  rw [conflP_mem h.2.2]
  constructor
  · rintro ⟨_, _, _, h4, h5, h6⟩
    exact ⟨h5, h4, fun hh => hh.2.2 h6⟩
  · rintro ⟨h1, h2, h3⟩
    refine ⟨h.1, h.2.1, h.2.2, h2, h1, ?_⟩
    exact Classical.byContradiction fun hn => h3 ⟨h2, fun e => h1 e.symm, hn⟩
end Go.Proofs.YtjogfagjcpcihaaGreatDoor
