/-
  A place is read from its text, and a text that is read is that of the place. Plain facts; no condition.
-/
import Derived.Test.YtjogfagjcpcihaaGreatDoorFmtInjX
import Derived.Test.YtjogfagjcpcihaaGreatDoorJAX
namespace Go.Proofs.YtjogfagjcpcihaaGreatDoor
open Go Go.Lib Sg
theorem parts_pair {c : UInt8} {l x y : List UInt8} (h : parts c l = [x, y]) : l = x ++ c :: y := by
  rcases first_c c l with h1 | ⟨a, r, rfl, ha⟩
  · rw [parts_none h1] at h; simp at h
  · rw [parts_app ha] at h
    have h2 := List.cons.inj h
    rcases first_c c r with h3 | ⟨b, t, rfl, hb⟩
    · rw [parts_none h3] at h2
      have h4 := (List.cons.inj h2.2).1
      rw [h2.1, h4]
    · rw [parts_app hb] at h2
      have h4 := (List.cons.inj h2.2).2
      exact absurd h4 (parts_ne c t)
theorem itoa_small {a : Int} (h0 : 0 ≤ a) (h1 : a < 100) : (itoa a).length ≤ 17 := by
  unfold itoa
  rw [if_neg (by omega), decDigits_length]
  by_cases h : a.toNat < 10
  · rw [nDigits_small h]; omega
  · rw [nDigits_big h, nDigits_small (by omega)]; omega
theorem canon_under {a : Int} (h0 : 0 ≤ a) (h1 : a < 100) : canonB (itoa a) = true ∧ (valF 0 (itoa a) : Int) = a := by
  refine ⟨atoi_canon (itoa_small h0 h1) h0 rfl, ?_⟩
  unfold itoa
  rw [if_neg (by omega), valF_dec]
  omega
theorem placeOf_text {a b : Int} (ha : 0 ≤ a) (ha' : a < 100) (hb : 0 ≤ b) (hb' : b < 100) : placeOf (pText (a, b)) = (true, a, b) := by
  unfold placeOf
  rw [pText_parts]
  dsimp only
  rw [(canon_under ha ha').1, (canon_under hb hb').1, (canon_under ha ha').2, (canon_under hb hb').2]
  rfl
theorem text_placeOf {l : List UInt8} {a b : Int} (h : placeOf l = (true, a, b)) : pText (a, b) = l := by
  unfold placeOf at h
  split at h
  · rename_i x y hp
    split at h
    · rename_i hc
      simp only [Bool.and_eq_true] at hc
      simp only [Prod.mk.injEq, true_and] at h
      rw [parts_pair hp]
      unfold pText
      rw [← h.1, ← h.2, (canon_atoi (canonB_iff.1 hc.1).2.1 hc.1).2, (canon_atoi (canonB_iff.1 hc.2).2.1 hc.2).2]
    · cases h
  · cases h
theorem placesText_one (p : Int × Int) : placesText [p] = pText p := by
  unfold placesText
  rw [if_neg (by simp), List.map_cons, List.map_nil, join_one]
end Go.Proofs.YtjogfagjcpcihaaGreatDoor
