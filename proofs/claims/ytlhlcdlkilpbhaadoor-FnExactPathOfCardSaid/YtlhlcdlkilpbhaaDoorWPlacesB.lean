/-
  The walks of the laws' toPlace, eqPlace, eqPlaceS; lists of places in memory. Condition: the list has at most 2^20 places.
-/
import Derived.Test.YtlhlcdlkilpbhaaDoorRows2
import Derived.Test.YtlhlcdlkilpbhaaDoorProg
import Derived.Lib.Hide
import Derived.Outline
import Derived.Deep.DeepCutAuto
import Derived.Deep.QuietTactic
import Derived.BigQuiet
import Derived.Lib.QuietBelow
namespace Go.Proofs.YtlhlcdlkilpbhaaDoor
open Go Go.RowKit
theorem infoPlace : (Tryd.prog.info? 36).map (fun i => (i.zero, i.size, i.bytes)) = some (some (.agg #[.int .i64 0, .int .i64 0]), 2, 16) := by kernel_rfl
theorem toPlace_any (a b : Int) (w : World) :
    Calls Tryd.prog 18 #[.agg #[.int .i64 a, .int .i64 b]] w fun e w' => e = .returned (.agg #[.int .i64 a, .int .i64 b]) ∧ Below w.heap.size w w' := by
  go_enter Tryd.func18, Tryd.ntmps18
  go_wp2
  refine bodyPost_ret (v := .agg #[.int .i64 a, .int .i64 b]) (by simp [results, Tryd.results18, go_sem]) rfl ⟨rfl, ?_⟩
  repeat (first | exact Below.refl _ _ | apply Below.drew | refine Below.alloc ?_ (by simp <;> omega) _ | refine Below.setCell ?_ (by simp <;> omega) _)
/-- The places' cells. -/
def placeCells (ps : List (Int × Int)) : List Value := ps.flatMap fun p => [.int .i64 p.1, .int .i64 p.2]
/-- A slice whose cells hold places. -/
def HoldsPlaces (w : World) (b off : Nat) (ps : List (Int × Int)) : Prop :=
  ∀ i p, ps[i]? = some p → w.cell? ⟨b, off + i * 2, none⟩ = some (.int .i64 p.1) ∧ w.cell? ⟨b, off + i * 2 + 1, none⟩ = some (.int .i64 p.2)
theorem placeCells_length (ps : List (Int × Int)) : (placeCells ps).length = 2 * ps.length := by
  induction ps with
  | nil => rfl
  | cons p r ih => unfold placeCells at ih ⊢; rw [List.flatMap_cons, List.length_append, ih]; simp; omega
theorem placeCells_snoc (ps : List (Int × Int)) (p : Int × Int) : placeCells (ps ++ [p]) = placeCells ps ++ [.int .i64 p.1, .int .i64 p.2] := by
  simp [placeCells]
theorem placeCells_at (ps : List (Int × Int)) : ∀ (i : Nat) (p : Int × Int), ps[i]? = some p → (placeCells ps)[i * 2]? = some (.int .i64 p.1) ∧ (placeCells ps)[i * 2 + 1]? = some (.int .i64 p.2) := by
  induction ps with
  | nil => intro i p h; simp at h
  | cons q r ih =>
    intro i p h
    have e : placeCells (q :: r) = .int .i64 q.1 :: .int .i64 q.2 :: placeCells r := rfl
    cases i with
    | zero => simp at h; subst h; rw [e]; simp
    | succ i =>
      have := ih i p (by simpa using h)
      rw [e, show (i + 1) * 2 = i * 2 + 1 + 1 from by omega]
      simpa using this
/-- A block's row that holds places. -/
theorem Row.places {w : World} {g : Nat} {t : TypeId} {ps : List (Int × Int)} (h : Row w g t (placeCells ps)) : HoldsPlaces w g 0 ps := by
  intro i p hp
  obtain ⟨h1, h2⟩ := placeCells_at ps i p hp
  exact ⟨by rw [Nat.zero_add]; exact h.cell h1, by rw [Nat.zero_add]; exact h.cell h2⟩
theorem HoldsPlaces.below {w w' : World} {b off B : Nat} {ps : List (Int × Int)} (h : HoldsPlaces w b off ps) (hb : Below B w w') (hB : b < B) : HoldsPlaces w' b off ps := by
  intro i p hp
  obtain ⟨h1, h2⟩ := h i p hp
  exact ⟨(hb.cell (p := ⟨b, _, none⟩) hB).trans h1, (hb.cell (p := ⟨b, _, none⟩) hB).trans h2⟩
/-- One place more is laid. -/
theorem place_step {vs : List Value} {ps : List (Int × Int)} {k : Nat} {p : Int × Int} (hl : vs.length = 2 * ps.length) (ht : vs.take (2 * k) = placeCells (ps.take k)) (hp : ps[k]? = some p) :
    ((vs.set (k * 2) (.int .i64 p.1)).set (k * 2 + 1) (.int .i64 p.2)).take (2 * (k + 1)) = placeCells (ps.take (k + 1)) := by
  have hk := (List.getElem?_eq_some_iff.1 hp).1
  have e1 : ps.take (k + 1) = ps.take k ++ [p] := by rw [List.take_add_one, hp]; rfl
  rw [e1, placeCells_snoc, ← ht, show 2 * (k + 1) = 2 * k + 1 + 1 from by omega, List.take_add_one, List.take_add_one]
  have h1 : ((vs.set (k * 2) (.int .i64 p.1)).set (k * 2 + 1) (.int .i64 p.2)).take (2 * k) = vs.take (2 * k) := by
    rw [List.take_set_of_le (by omega), List.take_set_of_le (by omega)]
  have h2 : ((vs.set (k * 2) (.int .i64 p.1)).set (k * 2 + 1) (.int .i64 p.2))[2 * k]? = some (.int .i64 p.1) := by
    rw [List.getElem?_set_ne (by omega), show 2 * k = k * 2 from by omega, List.getElem?_set_self (by omega)]
  have h3 : ((vs.set (k * 2) (.int .i64 p.1)).set (k * 2 + 1) (.int .i64 p.2))[2 * k + 1]? = some (.int .i64 p.2) := by
    rw [show 2 * k + 1 = k * 2 + 1 from by omega, List.getElem?_set_self (by simp; omega)]
  rw [h1, h2, h3]
  simp
/-- A slice of places that came in: nil, or its cells hold them. -/
def ArgPlaces (w : World) (oa : Option Addr) (ps : List (Int × Int)) : Prop :=
  ps = [] ∨ ∃ b off, oa = some ⟨b, off, none⟩ ∧ b < w.heap.size ∧ HoldsPlaces w b off ps
theorem ArgPlaces.below {w w' : World} {oa : Option Addr} {ps : List (Int × Int)} (h : ArgPlaces w oa ps) (hb : Below w.heap.size w w') : ArgPlaces w' oa ps := by
  rcases h with h | ⟨b, off, h1, h2, h3⟩
  · exact .inl h
  · exact .inr ⟨b, off, h1, Nat.lt_of_lt_of_le h2 hb.size, h3.below hb h2⟩
/-- Two places are told to be the same exactly if they are. -/
theorem eqPlace_any (a b c d : Int) (w : World) :
    Calls Tryd.prog 37 #[.agg #[.int .i64 a, .int .i64 b], .agg #[.int .i64 c, .int .i64 d]] w fun e w' => e = .returned (.bool (decide (a = c ∧ b = d))) ∧ Below w.heap.size w w' := by
  by_cases h1 : a = c
  · by_cases h2 : b = d
    · subst h1 h2
      go_enter Tryd.func37, Tryd.ntmps37
      go_wp2
      go_ret
      exact ⟨by simp, by repeat (first | exact Below.refl _ _ | apply Below.drew | refine Below.alloc ?_ (by simp <;> omega) _)⟩
    · subst h1
      have h3 : (b == d) = false := by simpa using h2
      have H2 := Lib.hid h2
      clear h2
      go_enter Tryd.func37, Tryd.ntmps37
      go_wp2
      go_ret
      exact ⟨by simp [H2.out], by repeat (first | exact Below.refl _ _ | apply Below.drew | refine Below.alloc ?_ (by simp <;> omega) _)⟩
  · have h3 : (a == c) = false := by simpa using h1
    have H1 := Lib.hid h1
    clear h1
    go_enter Tryd.func37, Tryd.ntmps37
    go_wp2
    go_ret
    exact ⟨by simp [H1.out], by repeat (first | exact Below.refl _ _ | apply Below.drew | refine Below.alloc ?_ (by simp <;> omega) _)⟩
set_option maxRecDepth 100000 in
set_option maxHeartbeats 1600000 in
/-- Two lists of places that are the same are told to be so. -/
theorem eqPlaceS_same (ps : List (Int × Int)) (b1 o1 c1 b2 o2 c2 : Nat) (w : World) (hn : ps.length < 2 ^ 40) (h1 : b1 < w.heap.size) (h2 : b2 < w.heap.size) (k1 : HoldsPlaces w b1 o1 ps) (k2 : HoldsPlaces w b2 o2 ps) :
    Calls Tryd.prog 24 #[.slice (some ⟨b1, o1, none⟩) ps.length c1, .slice (some ⟨b2, o2, none⟩) ps.length c2] w fun e w' => e = .returned (.bool true) ∧ Below w.heap.size w w' := by
  have K1 := Lib.hid k1
  have K2 := Lib.hid k2
  clear k1 k2
  go_enter Tryd.func24, Tryd.ntmps24
  go_wp2
  go_loopw [5] (fun i wr => ∃ k : Nat, i = .int .i64 k ∧ k ≤ ps.length ∧ Below w.heap.size w wr) (fun i _ => ps.length - (intOf i).toNat)
  case atStart => exact ⟨0, rfl, Nat.zero_le _, Below.refl _ _⟩
  case round =>
    obtain ⟨k, rfl, hk, hb⟩ := hrel
    by_cases hlt : k < ps.length
    · obtain ⟨p, hp⟩ : ∃ p, ps[k]? = some p := ⟨_, List.getElem?_eq_getElem hlt⟩
      obtain ⟨a0, a1⟩ := (K1.out.below hb h1) k p hp
      obtain ⟨d0, d1⟩ := (K2.out.below hb h2) k p hp
      clear hp
      have r0 := cell_regrown a0
      have r1 := cell_regrown a1
      have r2 := cell_regrown d0
      have r3 := cell_regrown d1
      have cE : ∀ d os, Calls Tryd.prog 37 #[.agg #[.int .i64 p.1, .int .i64 p.2], .agg #[.int .i64 p.1, .int .i64 p.2]] (Sort.grow (redrawn wr d) os) fun e w'' => e = .returned (.bool true) ∧ ∃ q : Regrown, w'' = Sort.grow (redrawn wr q.d) q.os :=
        fun d os => Calls.regrown_of ((eqPlace_any p.1 p.2 p.1 p.2 _).mono fun _ _ h => by simpa using h)
      clear a0 a1 d0 d1
      go_wp2_with fail
      refine wp_region_quiet_below (by kernel_rfl) (by kernel_rfl) ?_
      repeat (quiet_step (exact cE _ _))
      refine wpQuiet_nil ?_
      intro _ hw'
      obtain ⟨⟨dq, osq⟩, hw''⟩ := hw'
      subst hw''
      have hb' := hb.trans ((below_regrown wr dq osq).mono hb.size)
      go_wp2
      go_roundw
      case rel => exact ⟨k + 1, by go_num, by omega, hb'⟩
      case measure => simp only [intOf]; omega
    · go_wp2
      go_ret
      exact ⟨rfl, hb⟩
end Go.Proofs.YtlhlcdlkilpbhaaDoor
