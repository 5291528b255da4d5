/-
  The walks of the laws' toPlace, eqPlace, eqPlaceS; lists of places in memory. Condition: the list has at most 2^20 places. The walks of the laws' eqPlaceS, markPlaceS, heldPlaceS: lists of places compared, marked, and found marked. Condition: the lists' memory is their own.
-/
import Derived.Test.YtadpgoiiopfnnaaDoorBase
import Derived.Test.YtadpgoiiopfnnaaDoorProg
import Derived.Lib.Hide
import Derived.Outline
import Derived.Deep.DeepCutAuto
import Derived.Deep.QuietTactic
import Derived.BigQuiet
import Derived.Lib.QuietBelow
import Derived.Test.YtadpgoiiopfnnaaDoorWMarkGraph
namespace Go.Proofs.YtadpgoiiopfnnaaDoor
open Go Go.RowKit
theorem infoPlace : (Tryd.prog.info? 34).map (fun i => (i.zero, i.size, i.bytes)) = some (some (.agg #[.int .i64 0, .int .i64 0]), 2, 16) := by kernel_rfl
theorem toPlace_any (a b : Int) (w : World) :
    Calls Tryd.prog 18 #[.agg #[.int .i64 a, .int .i64 b]] w fun e w' => e = .returned (.agg #[.int .i64 a, .int .i64 b]) ∧ Below w.heap.size w w' := by
  go_enter Tryd.func18, Tryd.ntmps18
  go_wp2
  refine bodyPost_ret (v := .agg #[.int .i64 a, .int .i64 b]) (by simp [results, Tryd.results18, go_sem]) rfl ⟨rfl, ?_⟩
  repeat (first | exact Below.refl _ _ | apply Below.drew | refine Below.alloc ?_ (by simp <;> omega) _ | refine Below.setCell ?_ (by simp <;> omega) _)
/-- The places' cells. -/
def placeCells (ps : List (Int × Int)) : List Value := ps.flatMap fun p => [.int .i64 p.1, .int .i64 p.2]
/-- A slice whose cells hold places. -/
def HoldsPlaces (w : World) (b off : Nat) (ps : List (Int × Int)) : Prop :=
  ∀ i p, ps[i]? = some p → w.cell? ⟨b, off + i * 2, none⟩ = some (.int .i64 p.1) ∧ w.cell? ⟨b, off + i * 2 + 1, none⟩ = some (.int .i64 p.2)
theorem placeCells_length (ps : List (Int × Int)) : (placeCells ps).length = 2 * ps.length := by
  induction ps with
  | nil => rfl
  | cons p r ih => unfold placeCells at ih ⊢; rw [List.flatMap_cons, List.length_append, ih]; simp; omega
theorem placeCells_snoc (ps : List (Int × Int)) (p : Int × Int) : placeCells (ps ++ [p]) = placeCells ps ++ [.int .i64 p.1, .int .i64 p.2] := by
  simp [placeCells]
theorem placeCells_at (ps : List (Int × Int)) : ∀ (i : Nat) (p : Int × Int), ps[i]? = some p → (placeCells ps)[i * 2]? = some (.int .i64 p.1) ∧ (placeCells ps)[i * 2 + 1]? = some (.int .i64 p.2) := by
  induction ps with
  | nil => intro i p h; simp at h
  | cons q r ih =>
    intro i p h
    have e : placeCells (q :: r) = .int .i64 q.1 :: .int .i64 q.2 :: placeCells r := rfl
    cases i with
    | zero => simp at h; subst h; rw [e]; simp
    | succ i =>
      have := ih i p (by simpa using h)
      rw [e, show (i + 1) * 2 = i * 2 + 1 + 1 from by omega]
      simpa using this
/-- A block's row that holds places. -/
theorem Row.places {w : World} {g : Nat} {t : TypeId} {ps : List (Int × Int)} (h : Row w g t (placeCells ps)) : HoldsPlaces w g 0 ps := by
  intro i p hp
  obtain ⟨h1, h2⟩ := placeCells_at ps i p hp
  exact ⟨by rw [Nat.zero_add]; exact h.cell h1, by rw [Nat.zero_add]; exact h.cell h2⟩
theorem HoldsPlaces.below {w w' : World} {b off B : Nat} {ps : List (Int × Int)} (h : HoldsPlaces w b off ps) (hb : Below B w w') (hB : b < B) : HoldsPlaces w' b off ps := by
  intro i p hp
  obtain ⟨h1, h2⟩ := h i p hp
  exact ⟨(hb.cell (p := ⟨b, _, none⟩) hB).trans h1, (hb.cell (p := ⟨b, _, none⟩) hB).trans h2⟩
/-- One place more is laid. -/
theorem place_step {vs : List Value} {ps : List (Int × Int)} {k : Nat} {p : Int × Int} (hl : vs.length = 2 * ps.length) (ht : vs.take (2 * k) = placeCells (ps.take k)) (hp : ps[k]? = some p) :
    ((vs.set (k * 2) (.int .i64 p.1)).set (k * 2 + 1) (.int .i64 p.2)).take (2 * (k + 1)) = placeCells (ps.take (k + 1)) := by
  have hk := (List.getElem?_eq_some_iff.1 hp).1
  have e1 : ps.take (k + 1) = ps.take k ++ [p] := by rw [List.take_add_one, hp]; rfl
  rw [e1, placeCells_snoc, ← ht, show 2 * (k + 1) = 2 * k + 1 + 1 from by omega, List.take_add_one, List.take_add_one]
  have h1 : ((vs.set (k * 2) (.int .i64 p.1)).set (k * 2 + 1) (.int .i64 p.2)).take (2 * k) = vs.take (2 * k) := by
    rw [List.take_set_of_le (by omega), List.take_set_of_le (by omega)]
  have h2 : ((vs.set (k * 2) (.int .i64 p.1)).set (k * 2 + 1) (.int .i64 p.2))[2 * k]? = some (.int .i64 p.1) := by
    rw [List.getElem?_set_ne (by omega), show 2 * k = k * 2 from by omega, List.getElem?_set_self (by omega)]
  have h3 : ((vs.set (k * 2) (.int .i64 p.1)).set (k * 2 + 1) (.int .i64 p.2))[2 * k + 1]? = some (.int .i64 p.2) := by
    rw [show 2 * k + 1 = k * 2 + 1 from by omega, List.getElem?_set_self (by simp; omega)]
  rw [h1, h2, h3]
  simp
/-- A slice of places that came in: nil, or its cells hold them. -/
def ArgPlaces (w : World) (oa : Option Addr) (ps : List (Int × Int)) : Prop :=
  ps = [] ∨ ∃ b off, oa = some ⟨b, off, none⟩ ∧ b < w.heap.size ∧ HoldsPlaces w b off ps
theorem ArgPlaces.below {w w' : World} {oa : Option Addr} {ps : List (Int × Int)} (h : ArgPlaces w oa ps) (hb : Below w.heap.size w w') : ArgPlaces w' oa ps := by
  rcases h with h | ⟨b, off, h1, h2, h3⟩
  · exact .inl h
  · exact .inr ⟨b, off, h1, Nat.lt_of_lt_of_le h2 hb.size, h3.below hb h2⟩
/-- Two places are told to be the same exactly if they are. -/
theorem eqPlace_any (a b c d : Int) (w : World) :
    Calls Tryd.prog 25 #[.agg #[.int .i64 a, .int .i64 b], .agg #[.int .i64 c, .int .i64 d]] w fun e w' => e = .returned (.bool (decide (a = c ∧ b = d))) ∧ Below w.heap.size w w' := by
  by_cases h1 : a = c
  · by_cases h2 : b = d
    · subst h1 h2
      go_enter Tryd.func25, Tryd.ntmps25
      go_wp2
      go_ret
      exact ⟨by simp, by repeat (first | exact Below.refl _ _ | apply Below.drew | refine Below.alloc ?_ (by simp <;> omega) _)⟩
    · subst h1
      have h3 : (b == d) = false := by simpa using h2
      have H2 := Lib.hid h2
      clear h2
      go_enter Tryd.func25, Tryd.ntmps25
      go_wp2
      go_ret
      exact ⟨by simp [H2.out], by repeat (first | exact Below.refl _ _ | apply Below.drew | refine Below.alloc ?_ (by simp <;> omega) _)⟩
  · have h3 : (a == c) = false := by simpa using h1
    have H1 := Lib.hid h1
    clear h1
    go_enter Tryd.func25, Tryd.ntmps25
    go_wp2
    go_ret
    exact ⟨by simp [H1.out], by repeat (first | exact Below.refl _ _ | apply Below.drew | refine Below.alloc ?_ (by simp <;> omega) _)⟩
set_option maxRecDepth 100000 in
set_option maxHeartbeats 1600000 in
/-- Two lists of places that are the same are told to be so. -/
theorem eqPlaceS_same (ps : List (Int × Int)) (b1 o1 c1 b2 o2 c2 : Nat) (w : World) (hn : ps.length < 2 ^ 40) (h1 : b1 < w.heap.size) (h2 : b2 < w.heap.size) (k1 : HoldsPlaces w b1 o1 ps) (k2 : HoldsPlaces w b2 o2 ps) :
    Calls Tryd.prog 32 #[.slice (some ⟨b1, o1, none⟩) ps.length c1, .slice (some ⟨b2, o2, none⟩) ps.length c2] w fun e w' => e = .returned (.bool true) ∧ Below w.heap.size w w' := by
  have K1 := Lib.hid k1
  have K2 := Lib.hid k2
  clear k1 k2
  go_enter Tryd.func32, Tryd.ntmps32
  go_wp2
  go_loopw [5] (fun i wr => ∃ k : Nat, i = .int .i64 k ∧ k ≤ ps.length ∧ Below w.heap.size w wr) (fun i _ => ps.length - (intOf i).toNat)
  case atStart => exact ⟨0, rfl, Nat.zero_le _, Below.refl _ _⟩
  case round =>
    obtain ⟨k, rfl, hk, hb⟩ := hrel
    by_cases hlt : k < ps.length
    · obtain ⟨p, hp⟩ : ∃ p, ps[k]? = some p := ⟨_, List.getElem?_eq_getElem hlt⟩
      obtain ⟨a0, a1⟩ := (K1.out.below hb h1) k p hp
      obtain ⟨d0, d1⟩ := (K2.out.below hb h2) k p hp
      clear hp
      have r0 := cell_regrown a0
      have r1 := cell_regrown a1
      have r2 := cell_regrown d0
      have r3 := cell_regrown d1
      have cE : ∀ d os, Calls Tryd.prog 25 #[.agg #[.int .i64 p.1, .int .i64 p.2], .agg #[.int .i64 p.1, .int .i64 p.2]] (Sort.grow (redrawn wr d) os) fun e w'' => e = .returned (.bool true) ∧ ∃ q : Regrown, w'' = Sort.grow (redrawn wr q.d) q.os :=
        fun d os => Calls.regrown_of ((eqPlace_any p.1 p.2 p.1 p.2 _).mono fun _ _ h => by simpa using h)
      clear a0 a1 d0 d1
      go_wp2_with fail
      refine wp_region_quiet_below (by kernel_rfl) (by kernel_rfl) ?_
      repeat (quiet_step (exact cE _ _))
      refine wpQuiet_nil ?_
      intro _ hw'
      obtain ⟨⟨dq, osq⟩, hw''⟩ := hw'
      subst hw''
      have hb' := hb.trans ((below_regrown wr dq osq).mono hb.size)
      go_wp2
      go_roundw
      case rel => exact ⟨k + 1, by go_num, by omega, hb'⟩
      case measure => simp only [intOf]; omega
    · go_wp2
      go_ret
      exact ⟨rfl, hb⟩
end Go.Proofs.YtadpgoiiopfnnaaDoor
namespace Go.Proofs.YtadpgoiiopfnnaaDoor
open Go Go.RowKit
theorem ArgPlaces.at {w : World} {oa : Option Addr} {ps : List (Int × Int)} (h : ArgPlaces w oa ps) (hne : 0 < ps.length) : ∃ b off, oa = some ⟨b, off, none⟩ ∧ b < w.heap.size ∧ HoldsPlaces w b off ps := by
  rcases h with h | h
  · subst h; simp at hne
  · exact h
/-- Places by numbers. -/
def natPl (l : List (Nat × Nat)) : List (Int × Int) := l.map fun p => ((p.1 : Int), (p.2 : Int))
theorem natPl_length (l : List (Nat × Nat)) : (natPl l).length = l.length := by simp [natPl]
theorem natPl_snoc (l : List (Nat × Nat)) (p : Nat × Nat) : natPl (l ++ [p]) = natPl l ++ [((p.1 : Int), (p.2 : Int))] := by simp [natPl]
theorem argPlaces_of_owns {w : World} {B : Nat} {v : Value} {ps : List (Int × Int)} (h : w.ownsRow B 34 2 v ps.length (placeCells ps)) : ∃ oa cap, v = .slice oa ps.length cap ∧ ArgPlaces w oa ps := by
  obtain ⟨hl, h2 | ⟨g, cap, cur, hv, hB, hh, hn, _, hs, ht⟩⟩ := h
  · exact ⟨none, 0, by rw [h2.1, h2.2], .inl (List.eq_nil_of_length_eq_zero h2.2)⟩
  · refine ⟨_, cap, hv, .inr ⟨g, 0, rfl, (Array.getElem?_eq_some_iff.1 hh).1, fun i p hp => ?_⟩⟩
    have hil := (List.getElem?_eq_some_iff.1 hp).1
    obtain ⟨h0, h1⟩ := placeCells_at ps i p hp
    rw [← ht] at h0 h1
    rw [List.getElem?_take_of_lt (by omega)] at h0 h1
    rw [Nat.zero_add]
    constructor
    · simp [World.cell?, hh]; simpa using h0
    · simp [World.cell?, hh]; simpa using h1
set_option maxRecDepth 100000 in
theorem eqPlaceS_nil (o1 o2 : Option Addr) (c1 c2 : Nat) (w : World) :
    Calls Tryd.prog 32 #[.slice o1 0 c1, .slice o2 0 c2] w fun e w' => e = .returned (.bool true) ∧ Below w.heap.size w w' := by
  go_enter Tryd.func32, Tryd.ntmps32
  go_wp2
  go_loopw [5] (fun i wr => i = .int .i64 0 ∧ Below w.heap.size w wr) (fun _ _ => 0)
  case atStart => exact ⟨rfl, Below.refl _ _⟩
  case round =>
    obtain ⟨rfl, hb⟩ := hrel
    go_wp2
    go_ret
    exact ⟨rfl, hb⟩
theorem eqPlaceS_arg (ps : List (Int × Int)) (o1 o2 : Option Addr) (c1 c2 : Nat) (w : World) (hn : ps.length < 2 ^ 40) (k1 : ArgPlaces w o1 ps) (k2 : ArgPlaces w o2 ps) :
    Calls Tryd.prog 32 #[.slice o1 ps.length c1, .slice o2 ps.length c2] w fun e w' => e = .returned (.bool true) ∧ Below w.heap.size w w' := by
  rcases k1 with rfl | ⟨b1, f1, rfl, h1, q1⟩
  · exact eqPlaceS_nil o1 o2 c1 c2 w
  · rcases k2 with rfl | ⟨b2, f2, rfl, h2, q2⟩
    · exact eqPlaceS_nil _ o2 c1 c2 w
    · exact eqPlaceS_same ps b1 f1 c1 b2 f2 c2 w hn h1 h2 q1 q2
/-- A row of places that is the list's own. -/
def OwnPl (w : World) (B : Nat) (oa : Option Addr) (n : Nat) : Prop := n = 0 ∨ ∃ (g : Nat) (vs : List Value), oa = some ⟨g, 0, none⟩ ∧ B ≤ g ∧ Row w g 34 vs ∧ n * 2 ≤ vs.length
/-- It holds the numbers from k on. -/
def MarkedPl (w : World) (oa : Option Addr) (n : Nat) (k : Int) : Prop := n = 0 ∨ ∃ (g : Nat) (vs : List Value), oa = some ⟨g, 0, none⟩ ∧ Row w g 34 vs ∧ ∀ i, i < n → vs[i * 2]? = some (.int .i64 (k + 2 * i)) ∧ vs[i * 2 + 1]? = some (.int .i64 (k + 2 * i + 1))
theorem ownPl_of_owns {w : World} {B n : Nat} {oa : Option Addr} {cap : Nat} {xs : List Value} (h : w.ownsRow B 34 2 (.slice oa n cap) n xs) : OwnPl w B oa n := by
  obtain ⟨hl, h2 | ⟨g, cap', cur, hv, hB, hh, hn, _, hs, ht⟩⟩ := h
  · exact .inl h2.2
  · simp only [Value.slice.injEq] at hv
    obtain ⟨rfl, _, _⟩ := hv
    exact .inr ⟨g, cur.toList, rfl, hB, hh, by rw [Array.length_toList]; omega⟩
theorem OwnPl.below {w w' : World} {B n : Nat} {oa : Option Addr} (h : OwnPl w B oa n) (hb : Below w.heap.size w w') : OwnPl w' B oa n := by
  rcases h with h | ⟨g, vs, h1, h2, h3, h4⟩
  · exact .inl h
  · exact .inr ⟨g, vs, h1, h2, h3.below hb h3.lt, h4⟩
theorem MarkedPl.below {w w' : World} {n : Nat} {oa : Option Addr} {k : Int} (h : MarkedPl w oa n k) (hb : Below w.heap.size w w') : MarkedPl w' oa n k := by
  rcases h with h | ⟨g, vs, h1, h3, h4⟩
  · exact .inl h
  · exact .inr ⟨g, vs, h1, h3.below hb h3.lt, h4⟩
set_option maxRecDepth 100000 in
set_option maxHeartbeats 1600000 in
theorem markPlaceS_any (oa : Option Addr) (n cap B : Nat) (k : Int) (w : World) (hn : n < 2 ^ 40) (h0 : 0 ≤ k) (h1 : k ≤ 2 ^ 40) (h : OwnPl w B oa n) :
    Calls Tryd.prog 33 #[.slice oa n cap, .int .i64 k] w fun e w' => e = .returned (.int .i64 (k + 2 * n)) ∧ MarkedPl w' oa n k ∧ Below B w w' := by
  rcases h with rfl | ⟨g, vs, rfl, hg, hR, hvl⟩
  · go_enter Tryd.func33, Tryd.ntmps33
    go_wp2
    go_loopw [1, 5] (fun kv i wr => kv = .int .i64 k ∧ i = .int .i64 0 ∧ Below B w wr) (fun _ _ _ => 0)
    case atStart => exact ⟨rfl, rfl, Below.refl _ _⟩
    case round =>
      obtain ⟨rfl, rfl, hb⟩ := hrel
      go_wp2
      go_ret
      exact ⟨by simp, .inl rfl, hb⟩
  · have HR0 := Lib.hid hR
    clear hR
    go_enter Tryd.func33, Tryd.ntmps33
    go_wp2
    go_loopw [1, 5] (fun kv i wr => ∃ (j : Nat) (us : List Value), kv = .int .i64 (k + 2 * j) ∧ i = .int .i64 j ∧ j ≤ n ∧ us.length = vs.length ∧ Hid (∀ i, i < j → us[i * 2]? = some (.int .i64 (k + 2 * i)) ∧ us[i * 2 + 1]? = some (.int .i64 (k + 2 * i + 1))) ∧ Row wr g 34 us ∧ Below B w wr) (fun _ i _ => n - (intOf i).toNat)
    case atStart => exact ⟨0, vs, by simp, rfl, Nat.zero_le _, rfl, Lib.hid (fun i hi => absurd hi (by omega)), HR0.out, Below.refl _ _⟩
    case round =>
      obtain ⟨j, us, rfl, rfl, hj, hul, hus, hR, hb⟩ := hrel
      by_cases hlt : j < n
      · obtain ⟨u, hu⟩ : ∃ u, us[j * 2]? = some u := ⟨_, List.getElem?_eq_getElem (by omega)⟩
        obtain ⟨u1, hu1⟩ : ∃ u, us[j * 2 + 1]? = some u := ⟨_, List.getElem?_eq_getElem (by omega)⟩
        have c0 := hR.cell hu
        have f0 := hR.frozen (j * 2)
        have c1 := hR.cell hu1
        have f1 := hR.frozen (j * 2 + 1)
        have c2 := ((hR.set (j * 2) (.int .i64 (k + 2 * j))).cell (i := j * 2 + 1) (v := u1) (by rw [List.getElem?_set_ne (by omega)]; exact hu1))
        have HRN := Lib.hid ((hR.set (j * 2) (.int .i64 (k + 2 * j))).set (j * 2 + 1) (.int .i64 (k + 2 * j + 1)))
        have HBN := Lib.hid ((hb.setCell (p := ⟨g, j * 2, none⟩) hg (.int .i64 (k + 2 * j))).setCell (p := ⟨g, j * 2 + 1, none⟩) hg (.int .i64 (k + 2 * j + 1)))
        have HUS : Hid (∀ i, i < j + 1 → ((us.set (j * 2) (.int .i64 (k + 2 * j))).set (j * 2 + 1) (.int .i64 (k + 2 * j + 1)))[i * 2]? = some (.int .i64 (k + 2 * i)) ∧ ((us.set (j * 2) (.int .i64 (k + 2 * j))).set (j * 2 + 1) (.int .i64 (k + 2 * j + 1)))[i * 2 + 1]? = some (.int .i64 (k + 2 * i + 1))) := Lib.hid (fun i hi => by
          by_cases he : i = j
          · subst he
            refine ⟨?_, ?_⟩
            · rw [List.getElem?_set_ne (by omega), List.getElem?_set_self (by omega)]
            · rw [List.getElem?_set_self (by rw [List.length_set]; omega)]
          · refine ⟨?_, ?_⟩
            · rw [List.getElem?_set_ne (by omega), List.getElem?_set_ne (by omega)]; exact (hus.out i (by omega)).1
            · rw [List.getElem?_set_ne (by omega), List.getElem?_set_ne (by omega)]; exact (hus.out i (by omega)).2)
        have HUL : Hid (((us.set (j * 2) (.int .i64 (k + 2 * j))).set (j * 2 + 1) (.int .i64 (k + 2 * j + 1))).length = vs.length) := Lib.hid (by rw [List.length_set, List.length_set]; exact hul)
        clear hu hu1 hR hb hus hul
        go_wp2
        go_roundw
        case rel => exact ⟨j + 1, _, by go_num, by go_num, by omega, HUL.out, HUS, HRN.out, HBN.out⟩
        case measure => simp only [intOf]; omega
      · obtain rfl : j = n := by omega
        have HP := Lib.hid (And.intro hR hb)
        clear hR hb hul
        go_wp2
        go_ret
        exact ⟨rfl, .inr ⟨g, us, rfl, HP.out.1, hus.out⟩, HP.out.2⟩
set_option maxRecDepth 100000 in
set_option maxHeartbeats 1600000 in
theorem heldPlaceS_any (oa : Option Addr) (n cap : Nat) (k : Int) (w : World) (hn : n < 2 ^ 40) (h0 : 0 ≤ k) (h1 : k ≤ 2 ^ 40) (h : MarkedPl w oa n k) :
    Calls Tryd.prog 34 #[.slice oa n cap, .int .i64 k] w fun e w' => e = .returned (.int .i64 (k + 2 * n)) ∧ Below w.heap.size w w' := by
  have H := Lib.hid h
  clear h
  go_enter Tryd.func34, Tryd.ntmps34
  go_wp2
  go_loopw [1, 5] (fun kv i wr => ∃ j : Nat, kv = .int .i64 (k + 2 * j) ∧ i = .int .i64 j ∧ j ≤ n ∧ Below w.heap.size w wr) (fun _ i _ => n - (intOf i).toNat)
  case atStart => exact ⟨0, by simp, rfl, Nat.zero_le _, Below.refl _ _⟩
  case round =>
    obtain ⟨j, rfl, rfl, hj, hb⟩ := hrel
    by_cases hlt : j < n
    · rcases H.out with h | ⟨g, vs, rfl, hR, hvs⟩
      · omega
      · have c0 := (hb.cell (p := ⟨g, j * 2, none⟩) hR.lt).trans (hR.cell (hvs j hlt).1)
        have c1 := (hb.cell (p := ⟨g, j * 2 + 1, none⟩) hR.lt).trans (hR.cell (hvs j hlt).2)
        have hq : ((k + 2 * (j : Int)) == (k + 2 * (j : Int))) = true := by simp
        have hq1 : ((k + 2 * (j : Int) + 1) == (k + 2 * (j : Int) + 1)) = true := by simp
        clear hR hvs
        go_wp2
        go_roundw
        case rel => exact ⟨j + 1, by go_num, by go_num, by omega, hb⟩
        case measure => simp only [intOf]; omega
    · obtain rfl : j = n := by omega
      go_wp2
      go_ret
      exact ⟨rfl, hb⟩
/-- A slice of places that was appended to by one, as the operation runs it where an order is drawn. -/
theorem infoPl : (Tryd.prog.info? 34).map (fun i => (i.zero, i.size, i.bytes)) = some (some (.agg #[.int .i64 0, .int .i64 0]), 2, 16) := infoPlace
theorem cells_new2 (w : World) (x y : Value) (t : TypeId) : ∀ (j : Nat) (u : Value), [x, y][j]? = some u → (w.alloc (.cells #[x, y] t)).cell? ((⟨w.heap.size, 0, none⟩ : Addr).add j) = some u := by
  intro j u hu
  have hR := Row.new w [x, y] t
  have h2 : (⟨w.heap.size, 0, none⟩ : Addr).add j = ⟨w.heap.size, j, none⟩ := by
    unfold Addr.add
    split <;> simp_all
  rw [h2]
  exact hR.cell hu
theorem append_place {W : World} {base k : Nat} {v : Value} {xs : List Value} (hrow : W.ownsRow base 34 2 v k xs) (x y : Int) (hk : k < 1000000) (hbase : base ≤ W.heap.size) (ty : TypeId) :
    ∃ v' w', (Builtin.append_ #[46, 46] ty #[v, .slice (some ⟨W.heap.size, 0, none⟩) 1 1]).run Tryd.prog (W.alloc (.cells #[.int .i64 x, .int .i64 y] 34)).drew = .ok v' w' ∧ w'.ownsRow base 34 2 v' (k + 1) (xs ++ [.int .i64 x, .int .i64 y]) ∧ (W.alloc (.cells #[.int .i64 x, .int .i64 y] 34)).grownBy w' v.ownBlock := by
  obtain ⟨i0, hi, hz0, hz1, hz2⟩ := info_parts infoPl
  obtain ⟨v', w', hrun, h2, h3, _, _⟩ := run_append_own_at (P := Tryd.prog) (W.alloc (.cells #[.int .i64 x, .int .i64 y] 34)).drew base 46 ty 34 i0 (.agg #[.int .i64 0, .int .i64 0]) 2 16 Tryd.underlying46 hi hz0 hz1 hz2 rfl (by decide) v k xs (hrow.alloc _).drew ⟨W.heap.size, 0, none⟩ 1 1 [.int .i64 x, .int .i64 y] rfl (cells_new2 W _ _ _)
    (by intro u hu; simp only [List.mem_cons, List.mem_nil_iff, or_false] at hu; rcases hu with rfl | rfl <;> rfl) (by unfold maxLen; omega) (by omega) (by show base ≤ (W.alloc _).heap.size; simp; omega)
  exact ⟨v', w', hrun, h2, ⟨h3.os, h3.tape, h3.output, h3.size, h3.block⟩⟩
theorem below_append2 {W w' : World} {base k n size : Nat} {e : TypeId} {v : Value} {xs : List Value} {o : Obj} (hrow : W.ownsRow base e size v k xs) (hg : (W.alloc o).grownBy w' v.ownBlock) (hb : n ≤ base) (hW : n ≤ W.heap.size) : Below n W w' := by
  refine ((Below.refl n W).alloc hW o).grown hg (by simp; omega) (fun r e => ?_)
  obtain ⟨_, h2 | ⟨g', cap, cur, hv, hB, _, _⟩⟩ := hrow
  · rw [h2.1] at e; simp [Value.ownBlock] at e
  · rw [hv] at e; simp only [Value.ownBlock, Option.some.injEq] at e; omega
/-- What a given list function of places answers, with a truth; the empty list may be one of its own. -/
def PlGot2 (ok : Prop) (l : List (Int × Int)) (w : World) (e : Ending) (w' : World) : Prop :=
  (¬ ok ∧ ∃ g, e = .returned (.tuple #[.slice (some ⟨g, 0, none⟩) 0 0, .bool false]) ∧ Below w.heap.size w w') ∨
  (ok ∧ ∃ v, e = .returned (.tuple #[v, .bool true]) ∧ w'.ownsRow w.heap.size 34 2 v l.length (placeCells l) ∧ Below w.heap.size w w')
def PlGot (ok : Prop) (l : List (Int × Int)) (w : World) (e : Ending) (w' : World) : Prop :=
  (¬ ok ∧ e = .returned (.tuple #[.slice none 0 0, .bool false]) ∧ Below w.heap.size w w') ∨
  (ok ∧ ∃ v, e = .returned (.tuple #[v, .bool true]) ∧ w'.ownsRow w.heap.size 34 2 v l.length (placeCells l) ∧ Below w.heap.size w w')
/-- What the given list functions of places leave. -/
def PlsGot (l : List (Int × Int)) (w : World) (e : Ending) (w' : World) : Prop := ∃ v, e = .returned v ∧ w'.ownsRow w.heap.size 34 2 v l.length (placeCells l) ∧ Below w.heap.size w w'
end Go.Proofs.YtadpgoiiopfnnaaDoor
