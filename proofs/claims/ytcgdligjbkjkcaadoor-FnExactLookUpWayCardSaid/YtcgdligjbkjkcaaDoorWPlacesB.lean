/-
  The walks of the laws' toPlace, eqPlace, eqPlaceS; lists of places in memory. Condition: the list has at most 2^20 places.
-/
import Derived.Test.YtcgdligjbkjkcaaDoorRows2
import Derived.Test.YtcgdligjbkjkcaaDoorProg
import Derived.Lib.Hide
import Derived.Outline
import Derived.Deep.DeepCutAuto
import Derived.Deep.QuietTactic
import Derived.BigQuiet
import Derived.Lib.QuietBelow
namespace Go.Proofs.YtcgdligjbkjkcaaDoor
open Go Go.RowKit
theorem infoPlace : (Tryd.prog.info? 87).map (fun i => (i.zero, i.size, i.bytes)) = some (some (.agg #[.int .i64 0, .int .i64 0]), 2, 16) := by kernel_rfl
/-- The places' cells. -/
def placeCells (ps : List (Int × Int)) : List Value := ps.flatMap fun p => [.int .i64 p.1, .int .i64 p.2]
/-- A slice whose cells hold places. -/
def HoldsPlaces (w : World) (b off : Nat) (ps : List (Int × Int)) : Prop :=
  ∀ i p, ps[i]? = some p → w.cell? ⟨b, off + i * 2, none⟩ = some (.int .i64 p.1) ∧ w.cell? ⟨b, off + i * 2 + 1, none⟩ = some (.int .i64 p.2)
theorem placeCells_length (ps : List (Int × Int)) : (placeCells ps).length = 2 * ps.length := by
  induction ps with
  | nil => rfl
  | cons p r ih => unfold placeCells at ih ⊢; rw [List.flatMap_cons, List.length_append, ih]; simp; omega
theorem placeCells_snoc (ps : List (Int × Int)) (p : Int × Int) : placeCells (ps ++ [p]) = placeCells ps ++ [.int .i64 p.1, .int .i64 p.2] := by
  simp [placeCells]
theorem placeCells_at (ps : List (Int × Int)) : ∀ (i : Nat) (p : Int × Int), ps[i]? = some p → (placeCells ps)[i * 2]? = some (.int .i64 p.1) ∧ (placeCells ps)[i * 2 + 1]? = some (.int .i64 p.2) := by
  induction ps with
  | nil => intro i p h; simp at h
  | cons q r ih =>
    intro i p h
    have e : placeCells (q :: r) = .int .i64 q.1 :: .int .i64 q.2 :: placeCells r := rfl
    cases i with
    | zero => simp at h; subst h; rw [e]; simp
    | succ i =>
      have := ih i p (by simpa using h)
      rw [e, show (i + 1) * 2 = i * 2 + 1 + 1 from by omega]
      simpa using this
/-- A block's row that holds places. -/
theorem Row.places {w : World} {g : Nat} {t : TypeId} {ps : List (Int × Int)} (h : Row w g t (placeCells ps)) : HoldsPlaces w g 0 ps := by
  intro i p hp
  obtain ⟨h1, h2⟩ := placeCells_at ps i p hp
  exact ⟨by rw [Nat.zero_add]; exact h.cell h1, by rw [Nat.zero_add]; exact h.cell h2⟩
theorem HoldsPlaces.below {w w' : World} {b off B : Nat} {ps : List (Int × Int)} (h : HoldsPlaces w b off ps) (hb : Below B w w') (hB : b < B) : HoldsPlaces w' b off ps := by
  intro i p hp
  obtain ⟨h1, h2⟩ := h i p hp
  exact ⟨(hb.cell (p := ⟨b, _, none⟩) hB).trans h1, (hb.cell (p := ⟨b, _, none⟩) hB).trans h2⟩
/-- One place more is laid. -/
theorem place_step {vs : List Value} {ps : List (Int × Int)} {k : Nat} {p : Int × Int} (hl : vs.length = 2 * ps.length) (ht : vs.take (2 * k) = placeCells (ps.take k)) (hp : ps[k]? = some p) :
    ((vs.set (k * 2) (.int .i64 p.1)).set (k * 2 + 1) (.int .i64 p.2)).take (2 * (k + 1)) = placeCells (ps.take (k + 1)) := by
  have hk := (List.getElem?_eq_some_iff.1 hp).1
  have e1 : ps.take (k + 1) = ps.take k ++ [p] := by rw [List.take_add_one, hp]; rfl
  rw [e1, placeCells_snoc, ← ht, show 2 * (k + 1) = 2 * k + 1 + 1 from by omega, List.take_add_one, List.take_add_one]
  have h1 : ((vs.set (k * 2) (.int .i64 p.1)).set (k * 2 + 1) (.int .i64 p.2)).take (2 * k) = vs.take (2 * k) := by
    rw [List.take_set_of_le (by omega), List.take_set_of_le (by omega)]
  have h2 : ((vs.set (k * 2) (.int .i64 p.1)).set (k * 2 + 1) (.int .i64 p.2))[2 * k]? = some (.int .i64 p.1) := by
    rw [List.getElem?_set_ne (by omega), show 2 * k = k * 2 from by omega, List.getElem?_set_self (by omega)]
  have h3 : ((vs.set (k * 2) (.int .i64 p.1)).set (k * 2 + 1) (.int .i64 p.2))[2 * k + 1]? = some (.int .i64 p.2) := by
    rw [show 2 * k + 1 = k * 2 + 1 from by omega, List.getElem?_set_self (by simp; omega)]
  rw [h1, h2, h3]
  simp
/-- A slice of places that came in: nil, or its cells hold them. -/
def ArgPlaces (w : World) (oa : Option Addr) (ps : List (Int × Int)) : Prop :=
  ps = [] ∨ ∃ b off, oa = some ⟨b, off, none⟩ ∧ b < w.heap.size ∧ HoldsPlaces w b off ps
theorem ArgPlaces.below {w w' : World} {oa : Option Addr} {ps : List (Int × Int)} (h : ArgPlaces w oa ps) (hb : Below w.heap.size w w') : ArgPlaces w' oa ps := by
  rcases h with h | ⟨b, off, h1, h2, h3⟩
  · exact .inl h
  · exact .inr ⟨b, off, h1, Nat.lt_of_lt_of_le h2 hb.size, h3.below hb h2⟩
end Go.Proofs.YtcgdligjbkjkcaaDoor
