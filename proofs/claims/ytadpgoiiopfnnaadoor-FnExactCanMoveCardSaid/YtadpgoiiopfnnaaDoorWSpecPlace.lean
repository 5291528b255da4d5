/-
  The walk of spec.ParsePlace: at every text of at most 2^20 bytes it returns the place that the text tells, and whether it tells one; what was there before stays.
-/
import Derived.Test.YtadpgoiiopfnnaaDoorWNumCut
namespace Go.Proofs.YtadpgoiiopfnnaaDoor
open Go Go.RowKit Sg
/-- Whether a text tells a place, and which. -/
def placeOf (l : List UInt8) : Bool × Int × Int :=
  match parts 46 l with
  | [a, b] => if canonB a && canonB b then (true, (valF 0 a : Int), (valF 0 b : Int)) else (false, 0, 0)
  | _ => (false, 0, 0)
theorem l13Cut_46 (s : ByteArray) (w : World) (hs : s.size ≤ 1048576) :
    Calls Tryd.prog 176 #[.string s, .int .u8 46] w fun e w' => ∃ v, e = .returned v ∧ w'.ownsRow w.heap.size 9 1 v (parts 46 s.data.toList).length ((parts 46 s.data.toList).map strV) ∧ Below w.heap.size w w' :=
  l13Cut_any s 46 w hs
/-- A slice of its own, opened. -/
theorem row_open {w : World} {B : Nat} {v : Value} {ps : List (List UInt8)} (h : w.ownsRow B 9 1 v ps.length (ps.map strV)) (hne : ps ≠ []) :
    ∃ g cap, v = .slice (some ⟨g, 0, none⟩) ps.length cap ∧ B ≤ g ∧ g < w.heap.size ∧ ps.length ≤ cap ∧ ∀ j p, ps[j]? = some p → w.cell? ⟨g, j, none⟩ = some (strV p) := by
  have hlt := h.lt
  have hcells := fun g hg => h.cells (g := g) hg
  obtain ⟨hl, h | ⟨g, cap, cur, hv, hg, hh, hn, hm, hc, ht⟩⟩ := h
  · exact absurd (List.length_eq_zero_iff.1 h.2) hne
  · subst hv
    refine ⟨g, cap, rfl, hg, (hlt g rfl).2, hn, fun j p hp => ?_⟩
    have := hcells g rfl j (strV p) (by rw [List.getElem?_map, hp]; rfl)
    cases j <;> simpa [Addr.add] using this
theorem l13Num_list (p : List UInt8) (w : World) (hs : p.length ≤ 1048576) :
    Calls Tryd.prog 177 #[.string ⟨p.toArray⟩] w fun e w' => e = .returned (.tuple #[.int .i64 (numI p), .bool (numB p)]) ∧ w' = w := by
  have := l13Num_any ⟨p.toArray⟩ w (by change p.toArray.size ≤ _; rw [List.size_toArray]; unfold maxLen; omega)
  simpa using this
theorem parts_len (c : UInt8) : ∀ (l p : List UInt8), p ∈ parts c l → p.length ≤ l.length
  | [], p, h => by simp [parts] at h; simp [h]
  | b :: r, p, h => by
    by_cases hb : b = c
    · subst hb
      rw [parts_eq, List.mem_cons] at h
      rcases h with rfl | h
      · simp
      · have := parts_len _ r p h; simp; omega
    · rw [parts_neq hb] at h
      have ih := fun q hq => parts_len c r q hq
      cases hq : parts c r with
      | nil => exact absurd hq (parts_ne c r)
      | cons q qs =>
        rw [hq] at h ih
        simp only [glue, List.mem_cons] at h
        rcases h with rfl | h
        · have := ih q (by simp); simp; omega
        · have := ih p (by simp [h]); simp; omega
theorem place_end {l : List UInt8} {ok : Bool} {a b : Int} (h : placeOf l = (ok, a, b)) :
    Ending.returned (.tuple #[.agg #[.int .i64 a, .int .i64 b], .bool ok]) = Ending.returned (.tuple #[.agg #[.int .i64 (placeOf l).2.1, .int .i64 (placeOf l).2.2], .bool (placeOf l).1]) := by rw [h]
theorem place_two {l p q : List UInt8} (h : parts 46 l = [p, q]) : placeOf l = if canonB p && canonB q then (true, (valF 0 p : Int), (valF 0 q : Int)) else (false, 0, 0) := by
  unfold placeOf; rw [h]
theorem place_not {l : List UInt8} {ps : List (List UInt8)} (h : parts 46 l = ps) (h2 : ps.length ≠ 2) : placeOf l = (false, 0, 0) := by
  unfold placeOf; rw [h]
  match ps, h2 with
  | [], _ => rfl
  | [_], _ => rfl
  | [_, _], h2 => exact absurd rfl h2
  | _ :: _ :: _ :: _, _ => rfl
end Go.Proofs.YtadpgoiiopfnnaaDoor
