/-
  FnExactPlaceAfter: for every two places the law returns true, and nothing that was there has changed. No conditions.
-/
import Derived.Test.YtppgdigcopkeiaaRows
import Derived.WalkKit
import Derived.ProofKit
import Derived.OpenShut
import Derived.Lib.Hide
import Derived.Carry
import Derived.Deep.RegionHeld3
import Derived.Deep.DeepCutAuto
import Derived.ChangeSame
import Derived.Deep.Fields
namespace Go.Proofs.Ytppgdigcopkeiaa
open Go Go.RowKit
/-- Block g holds just the cells vs of type t, none of them frozen. -/
def Row (w : World) (g : Nat) (t : TypeId) (vs : List Value) : Prop := w.heap[g]? = some (.cells vs.toArray t (0, 0))
theorem Row.lt {w : World} {g : Nat} {t : TypeId} {vs : List Value} (h : Row w g t vs) : g < w.heap.size := (Array.getElem?_eq_some_iff.1 h).1
theorem Row.cell {w : World} {g : Nat} {t : TypeId} {vs : List Value} (h : Row w g t vs) {i : Nat} {v : Value} (hi : vs[i]? = some v) : w.cell? ⟨g, i, none⟩ = some v := by
  unfold Row at h
  simp [World.cell?, h, hi]
theorem Row.frozen {w : World} {g : Nat} {t : TypeId} {vs : List Value} (h : Row w g t vs) (i : Nat) : w.frozen? ⟨g, i, none⟩ = false := by
  unfold Row at h
  simp [World.frozen?, h]
theorem Row.set {w : World} {g : Nat} {t : TypeId} {vs : List Value} (h : Row w g t vs) (i : Nat) (v : Value) : Row (w.setCell ⟨g, i, none⟩ v) g t (vs.set i v) := by
  unfold Row at h ⊢
  simp [World.setCell, Array.getElem?_modify, h]
theorem Row.below {w w' : World} {B g : Nat} {t : TypeId} {vs : List Value} (h : Row w g t vs) (hb : Below B w w') (hg : g < B) : Row w' g t vs := by
  unfold Row at h ⊢
  rw [hb.block g hg]; exact h
theorem Row.drew {w : World} {g : Nat} {t : TypeId} {vs : List Value} (h : Row w g t vs) : Row w.drew g t vs := h
theorem Row.new (w : World) (vs : List Value) (t : TypeId) : Row (w.alloc (.cells vs.toArray t)) w.heap.size t vs := by
  unfold Row
  rw [World.alloc, Array.getElem?_push]; simp
theorem belowS {w w1 w2 : World} (h : Below w.heap.size w w1) (k : Below w1.heap.size w1 w2) : Below w.heap.size w w2 := h.trans (k.mono h.size)
theorem toPlace_any (a b : Int) (w : World) :
    Calls Try.prog 5 #[.agg #[.int .i64 a, .int .i64 b]] w fun e w' => e = .returned (.agg #[.int .i64 a, .int .i64 b]) ∧ Below w.heap.size w w' := by
  go_enter Try.func5, Try.ntmps5
  go_wp2
  refine bodyPost_ret (v := .agg #[.int .i64 a, .int .i64 b]) (by simp [results, Try.results5, go_sem]) rfl ⟨rfl, ?_⟩
  repeat (first | exact Below.refl _ _ | apply Below.drew | refine Below.alloc ?_ (by simp <;> omega) _ | refine Below.setCell ?_ (by simp <;> omega) _)
theorem eqPlace_same (a b : Int) (w : World) :
    Calls Try.prog 7 #[.agg #[.int .i64 a, .int .i64 b], .agg #[.int .i64 a, .int .i64 b]] w fun e w' => e = .returned (.bool true) ∧ Below w.heap.size w w' := by
  go_enter Try.func7, Try.ntmps7
  go_wp2
  go_ret
  exact ⟨rfl, by repeat (first | exact Below.refl _ _ | apply Below.drew | refine Below.alloc ?_ (by simp) _)⟩
def aftB (a b c d : Int) : Int := if a = c ∧ d < b then b - 1 else b
/-- Where a place stands behind a removal. -/
def paV (a b c d : Int) : Int × Int × Bool := if a = c ∧ b = d then (0, 0, false) else (a, aftB a b c d, true)
def PaGot (a b c d : Int) (w : World) (e : Ending) (w' : World) : Prop := ∃ x y ok, e = .returned (.tuple #[.agg #[.int .i64 x, .int .i64 y], .bool ok]) ∧ (x, y, ok) = paV a b c d ∧ Below w.heap.size w w'
set_option maxRecDepth 100000 in
theorem l6After_any (a b c d : Int) (hb : -9223372036854775808 ≤ b ∧ b ≤ 9223372036854775807) (hd : -9223372036854775808 ≤ d ∧ d ≤ 9223372036854775807) (w : World) :
    Calls Try.prog 8 #[.agg #[.int .i64 a, .int .i64 b], .agg #[.int .i64 c, .int .i64 d]] w fun e w' => e = .returned (.agg #[.int .i64 a, .int .i64 (aftB a b c d)]) ∧ Below w.heap.size w w' := by
  obtain ⟨hb1, hb2⟩ := hb
  obtain ⟨hd1, hd2⟩ := hd
  by_cases h1 : a = c
  · subst h1
    by_cases h3 : d < b
    · have H := Lib.hid h3
      go_enter Try.func8, Try.ntmps8
      go_wp2
      refine bodyPost_ret (v := .agg #[.int .i64 a, .int .i64 (b - 1)]) (by simp [results, Try.results8, go_sem]) rfl ⟨by have h := H.out; simp [aftB]; try omega, ?_⟩
      repeat (first | exact Below.refl _ _ | apply Below.drew | refine Below.alloc ?_ (by simp <;> omega) _ | refine Below.setCell ?_ (by simp <;> omega) _)
    · have H := Lib.hid h3
      go_enter Try.func8, Try.ntmps8
      go_wp2
      refine bodyPost_ret (v := .agg #[.int .i64 a, .int .i64 b]) (by simp [results, Try.results8, go_sem]) rfl ⟨by have h := H.out; simp [aftB]; try omega, ?_⟩
      repeat (first | exact Below.refl _ _ | apply Below.drew | refine Below.alloc ?_ (by simp <;> omega) _ | refine Below.setCell ?_ (by simp <;> omega) _)
  · have e1 : (a == c) = false := by simpa using h1
    have H := Lib.hid h1
    clear h1
    go_enter Try.func8, Try.ntmps8
    go_wp2
    refine bodyPost_ret (v := .agg #[.int .i64 a, .int .i64 b]) (by simp [results, Try.results8, go_sem]) rfl ⟨by have h := H.out; simp [aftB]; try omega, ?_⟩
    repeat (first | exact Below.refl _ _ | apply Below.drew | refine Below.alloc ?_ (by simp <;> omega) _ | refine Below.setCell ?_ (by simp <;> omega) _)
set_option maxRecDepth 100000 in
theorem specPlaceAfter_any (a b c d : Int) (hb : -9223372036854775808 ≤ b ∧ b ≤ 9223372036854775807) (hd : -9223372036854775808 ≤ d ∧ d ≤ 9223372036854775807) (w : World) :
    Calls Try.prog 4 #[.agg #[.int .i64 a, .int .i64 b], .agg #[.int .i64 c, .int .i64 d]] w (PaGot a b c d w) := by
  have hb0 : Below w.heap.size w (((w.alloc (.cells #[.int .i64 a, .int .i64 b] 24)).alloc (.cells #[.int .i64 c, .int .i64 d] 24)).alloc (.cells #[.int .i64 0, .int .i64 0] 24)) := (((Below.refl _ _).alloc (Nat.le_refl _) _).alloc (by simp) _).alloc (by simp; omega) _
  have C := Lib.hid (l6After_any a b c d hb hd (((w.alloc (.cells #[.int .i64 a, .int .i64 b] 24)).alloc (.cells #[.int .i64 c, .int .i64 d] 24)).alloc (.cells #[.int .i64 0, .int .i64 0] 24)))
  have R0 := Row.new ((w.alloc (.cells #[.int .i64 a, .int .i64 b] 24)).alloc (.cells #[.int .i64 c, .int .i64 d] 24)) [.int .i64 0, .int .i64 0] 24
  rw [World.size_alloc, World.size_alloc] at R0
  have R := Lib.hid R0
  have HB := Lib.hid hb0
  clear R0 hb0
  by_cases h1 : a = c ∧ b = d
  · obtain ⟨rfl, rfl⟩ := h1
    go_enter Try.func4, Try.ntmps4
    go_wp2
    refine bodyPost_ret (v := .tuple #[.agg #[.int .i64 0, .int .i64 0], .bool false]) (by simp [results, Try.results4, go_sem]) rfl ⟨0, 0, false, rfl, by simp [paV], ?_⟩
    repeat (first | exact Below.refl _ _ | apply Below.drew | refine Below.alloc ?_ (by simp <;> omega) _ | refine Below.setCell ?_ (by simp <;> omega) _)
  · have HP : Hid (paV a b c d = (a, aftB a b c d, true)) := Lib.hid (by unfold paV; rw [if_neg h1])
    by_cases h2 : a = c
    · have e1 : (a == c) = true := by simpa using h2
      have e2 : (b == d) = false := by simpa using fun h => h1 ⟨h2, h⟩
      clear h1 h2
      go_enter Try.func4, Try.ntmps4
      go_wp2_with fail
      refine C.out.mono ?_
      rintro e w1 ⟨rfl, hb1⟩
      have HB1 := Lib.hid (HB.out.trans (hb1.mono HB.out.size))
      have R1 := Lib.hid (R.out.below hb1 R.out.lt)
      have m0 := R1.out.cell (i := 0) (by rfl)
      have m1 := R1.out.cell (i := 1) (by rfl)
      have l0 := R1.out.frozen 0
      have l1 := R1.out.frozen 1
      clear hb1
      generalize aftB a b c d = z at *
      go_wp2
      have RT := (R1.out.set 0 (.int .i64 a)).set 1 (.int .i64 z)
      have d0 := RT.cell (i := 0) (v := .int .i64 a) (by rfl)
      have d1 := RT.cell (i := 1) (v := .int .i64 z) (by rfl)
      refine bodyPost_ret (v := .tuple #[.agg #[.int .i64 a, .int .i64 z], .bool true]) (by simp [results, Try.results4, go_sem, d0, d1]) rfl ⟨a, z, true, rfl, HP.out.symm, ?_⟩
      exact (HB1.out.setCell (by simp; omega) _).setCell (by simp; omega) _
    · have e1 : (a == c) = false := by simpa using h2
      clear h1 h2
      go_enter Try.func4, Try.ntmps4
      go_wp2_with fail
      refine C.out.mono ?_
      rintro e w1 ⟨rfl, hb1⟩
      have HB1 := Lib.hid (HB.out.trans (hb1.mono HB.out.size))
      have R1 := Lib.hid (R.out.below hb1 R.out.lt)
      have m0 := R1.out.cell (i := 0) (by rfl)
      have m1 := R1.out.cell (i := 1) (by rfl)
      have l0 := R1.out.frozen 0
      have l1 := R1.out.frozen 1
      clear hb1
      generalize aftB a b c d = z at *
      go_wp2
      have RT := (R1.out.set 0 (.int .i64 a)).set 1 (.int .i64 z)
      have d0 := RT.cell (i := 0) (v := .int .i64 a) (by rfl)
      have d1 := RT.cell (i := 1) (v := .int .i64 z) (by rfl)
      refine bodyPost_ret (v := .tuple #[.agg #[.int .i64 a, .int .i64 z], .bool true]) (by simp [results, Try.results4, go_sem, d0, d1]) rfl ⟨a, z, true, rfl, HP.out.symm, ?_⟩
      exact (HB1.out.setCell (by simp; omega) _).setCell (by simp; omega) _
set_option maxRecDepth 100000 in
theorem implPlaceAfter_any (a b c d : Int) (hb : -9223372036854775808 ≤ b ∧ b ≤ 9223372036854775807) (hd : -9223372036854775808 ≤ d ∧ d ≤ 9223372036854775807) (w : World) :
    Calls Try.prog 6 #[.agg #[.int .i64 a, .int .i64 b], .agg #[.int .i64 c, .int .i64 d]] w (PaGot a b c d w) := by
  obtain ⟨hb1, hb2⟩ := hb
  obtain ⟨hd1, hd2⟩ := hd
  by_cases h1 : a = c
  · subst h1
    by_cases h2 : b = d
    · subst h2
      go_enter Try.func6, Try.ntmps6
      go_wp2
      refine bodyPost_ret (v := .tuple #[.agg #[.int .i64 0, .int .i64 0], .bool false]) (by simp [results, Try.results6, go_sem]) rfl ⟨0, 0, false, rfl, by simp [paV], ?_⟩
      repeat (first | exact Below.refl _ _ | apply Below.drew | refine Below.alloc ?_ (by simp <;> omega) _ | refine Below.setCell ?_ (by simp <;> omega) _)
    · have e2 : (b == d) = false := by simpa using h2
      by_cases h3 : d < b
      · have H := Lib.hid (And.intro h2 h3)
        clear h2
        go_enter Try.func6, Try.ntmps6
        go_wp2
        refine bodyPost_ret (v := .tuple #[.agg #[.int .i64 a, .int .i64 (b - 1)], .bool true]) (by simp [results, Try.results6, go_sem]) rfl ⟨a, b - 1, true, rfl, by simp [paV, aftB, H.out.1, H.out.2], ?_⟩
        repeat (first | exact Below.refl _ _ | apply Below.drew | refine Below.alloc ?_ (by simp <;> omega) _ | refine Below.setCell ?_ (by simp <;> omega) _)
      · have H := Lib.hid (And.intro h2 h3)
        clear h2
        go_enter Try.func6, Try.ntmps6
        go_wp2
        refine bodyPost_ret (v := .tuple #[.agg #[.int .i64 a, .int .i64 b], .bool true]) (by simp [results, Try.results6, go_sem]) rfl ⟨a, b, true, rfl, by have h := H.out.2; simp [paV, aftB, H.out.1]; try omega, ?_⟩
        repeat (first | exact Below.refl _ _ | apply Below.drew | refine Below.alloc ?_ (by simp <;> omega) _ | refine Below.setCell ?_ (by simp <;> omega) _)
  · have e1 : (a == c) = false := by simpa using h1
    have H := Lib.hid h1
    clear h1
    go_enter Try.func6, Try.ntmps6
    go_wp2
    refine bodyPost_ret (v := .tuple #[.agg #[.int .i64 a, .int .i64 b], .bool true]) (by simp [results, Try.results6, go_sem]) rfl ⟨a, b, true, rfl, by simp [paV, aftB, H.out], ?_⟩
    repeat (first | exact Below.refl _ _ | apply Below.drew | refine Below.alloc ?_ (by simp <;> omega) _ | refine Below.setCell ?_ (by simp <;> omega) _)
theorem grow_cell {W W' : World} {p : Addr} {v : Value} (hb : Below W.heap.size W W') (h : W.cell? p = some v) : W'.cell? p = some v := (hb.cell (World.block_lt_of_cell? _ _ h)).trans h
theorem drew_size (W : World) : W.drew.heap.size = W.heap.size := rfl
theorem held_of {w w1 W : World} {p0 p1 p2 p3 : Addr} {v0 v1 v2 v3 : Value} (c0 : w1.cell? p0 = some v0) (c1 : w1.cell? p1 = some v1) (c2 : w1.cell? p2 = some v2) (c3 : w1.cell? p3 = some v3) (B1 : Below w.heap.size w w1) (hb : Below w1.heap.size w1 W) :
    W.cell? p0 = some v0 ∧ W.cell? p1 = some v1 ∧ W.cell? p2 = some v2 ∧ W.cell? p3 = some v3 ∧ Below w.heap.size w W ∧ Below w1.heap.size w1 W :=
  ⟨grow_cell hb c0, grow_cell hb c1, grow_cell hb c2, grow_cell hb c3, B1.trans (hb.mono B1.size), hb⟩
set_option maxRecDepth 100000 in
set_option maxHeartbeats 8000000 in
theorem lawPlaceAfter (a b c d : Int) (hb : -9223372036854775808 ≤ b ∧ b ≤ 9223372036854775807) (hd : -9223372036854775808 ≤ d ∧ d ≤ 9223372036854775807) (w : World) :
    Calls Try.prog 3 #[.agg #[.int .i64 a, .int .i64 b], .agg #[.int .i64 c, .int .i64 d]] w fun e w' => e = .returned (.bool true) ∧ Below w.heap.size w w' := by
  have hb0 := ((Below.refl w.heap.size w).alloc (Nat.le_refl _) (.cells #[.int .i64 a, .int .i64 b] 23)).alloc (by simp) (.cells #[.int .i64 c, .int .i64 d] 23)
  have R0 := (Row.new w [.int .i64 a, .int .i64 b] 23)
  have R1 := Row.new (w.alloc (.cells #[.int .i64 a, .int .i64 b] 23)) [.int .i64 c, .int .i64 d] 23
  rw [World.size_alloc] at R1
  have R0' := Row.below R0 ((Below.refl _ _).alloc (Nat.le_refl _) (.cells #[.int .i64 c, .int .i64 d] 23)) R0.lt
  have P := Lib.hid R0'
  have Q := Lib.hid R1
  have HI := Lib.hid (And.intro hb hd)
  have B1 := Lib.hid hb0
  clear R0 R1 R0' hb0 hb hd
  go_enter Try.func3, Try.ntmps3
  go_wp2
  generalize (w.alloc (.cells #[.int .i64 a, .int .i64 b] 23)).alloc (.cells #[.int .i64 c, .int .i64 d] 23) = w1 at *
  have c0 := P.out.cell (i := 0) (by rfl)
  have c1 := P.out.cell (i := 1) (by rfl)
  have c2 := Q.out.cell (i := 0) (by rfl)
  have c3 := Q.out.cell (i := 1) (by rfl)
  go_cut [5, 6] (fun s5 s6 wx => ∃ (x y : Int) (ok : Bool) (g : Nat), s5 = .pointer (some ⟨g, 0, none⟩) ∧ s6 = .bool ok ∧ (x, y, ok) = paV a b c d ∧ w1.heap.size ≤ g ∧ Row wx g 24 [.int .i64 x, .int .i64 y] ∧ Below w1.heap.size w1 wx)
  case first =>
    go_region_held3 (fun w' => w'.cell? ⟨w.heap.size, 0, none⟩ = some (.int .i64 a) ∧ w'.cell? ⟨w.heap.size, 1, none⟩ = some (.int .i64 b) ∧ w'.cell? ⟨w.heap.size + 1, 0, none⟩ = some (.int .i64 c) ∧ w'.cell? ⟨w.heap.size + 1, 1, none⟩ = some (.int .i64 d) ∧ Below w.heap.size w w' ∧ Below w1.heap.size w1 w')
      (first
        | exact held_of c0 c1 c2 c3 B1.out (Below.refl _ _)
        | exact held_of c0 c1 c2 c3 B1.out (Below.refl _ _).drew
        | exact held_of c0 c1 c2 c3 B1.out ((Below.refl _ _).alloc (Nat.le_refl _) _).drew
        | exact held_of c0 c1 c2 c3 B1.out hBs
        | exact held_of c0 c1 c2 c3 B1.out hBp
        | exact held_of c0 c1 c2 c3 B1.out (hBs.alloc hBs.size _)
        | exact held_of c0 c1 c2 c3 B1.out (hBp.alloc hBp.size _)
        | exact held_of c0 c1 c2 c3 B1.out ((hBs.setCell (Nat.le_refl _) _).setCell (Nat.le_refl _) _)
        | exact held_of c0 c1 c2 c3 B1.out ((hBs.setCell hBp.size _).setCell hBp.size _)
          | exact held_of c0 c1 c2 c3 B1.out ((hBs.setCell hBq.size _).setCell hBq.size _)
          | exact held_of c0 c1 c2 c3 B1.out hBq
          | exact held_of c0 c1 c2 c3 B1.out (hBq.alloc hBq.size _))
      (first
        | (go_at_call 5; refine (toPlace_any _ _ _).mono ?_; rintro e wp ⟨rfl, hbp⟩; (try have hBq := hBp); have hBp := Below.trans (show Below w1.heap.size w1 _ from (And.right (And.right (And.right (And.right (And.right (by assumption))))))) (hbp.mono (Below.size (And.right (And.right (And.right (And.right (And.right (by assumption)))))))); (first | (have hz := Row.below hz hbp hz.lt; have z0 := hz.cell (i := 0) (by rfl); have z1 := hz.cell (i := 1) (by rfl); have zf0 := hz.frozen 0; have zf1 := hz.frozen 1) | (have hz := Row.below (Row.new _ [.int .i64 0, .int .i64 0] 24) hbp (by simp); (try simp only [drew_size] at hz); have z0 := hz.cell (i := 0) (by rfl); have z1 := hz.cell (i := 1) (by rfl); have zf0 := hz.frozen 0; have zf1 := hz.frozen 1) | (have hz := Row.below (Row.drew (Row.new _ [.int .i64 0, .int .i64 0] 24)) hbp (by simp); (try simp only [drew_size] at hz); have z0 := hz.cell (i := 0) (by rfl); have z1 := hz.cell (i := 1) (by rfl); have zf0 := hz.frozen 0; have zf1 := hz.frozen 1) | skip))
        | (go_at_call 4; refine (specPlaceAfter_any a b c d HI.out.1 HI.out.2 _).mono ?_; rintro e ws ⟨x, y, ok, rfl, hv, hbs⟩; have hBs := Below.trans (show Below w1.heap.size w1 _ from (And.right (And.right (And.right (And.right (And.right (by assumption))))))) (hbs.mono (Below.size (And.right (And.right (And.right (And.right (And.right (by assumption)))))))); (first | (have hz := Row.below hz hbs hz.lt; have z0 := hz.cell (i := 0) (by rfl); have z1 := hz.cell (i := 1) (by rfl); have zf0 := hz.frozen 0; have zf1 := hz.frozen 1) | (have hz := Row.below (Row.new _ [.int .i64 0, .int .i64 0] 24) hbs (by simp); (try simp only [drew_size] at hz); have z0 := hz.cell (i := 0) (by rfl); have z1 := hz.cell (i := 1) (by rfl); have zf0 := hz.frozen 0; have zf1 := hz.frozen 1) | (have hz := Row.below (Row.drew (Row.new _ [.int .i64 0, .int .i64 0] 24)) hbs (by simp); (try simp only [drew_size] at hz); have z0 := hz.cell (i := 0) (by rfl); have z1 := hz.cell (i := 1) (by rfl); have zf0 := hz.frozen 0; have zf1 := hz.frozen 1) | skip)))
    all_goals go_wp2
    all_goals go_meet
    all_goals first
      | exact ⟨x, y, ok, _, rfl, rfl, hv, hBs.size, Row.new ws [.int .i64 x, .int .i64 y] 24, hBs.alloc hBs.size _⟩
      | exact ⟨x, y, ok, _, rfl, rfl, hv, hBp.size, (hz.set 0 _).set 1 _, (hBs.setCell hBp.size _).setCell hBp.size _⟩
      | exact ⟨x, y, ok, _, rfl, rfl, hv, hBq.size, (hz.set 0 _).set 1 _, (hBs.setCell hBq.size _).setCell hBq.size _⟩
      | exact ⟨x, y, ok, _, rfl, rfl, hv, (Nat.le_refl _), (hz.set 0 _).set 1 _, (hBs.setCell (Nat.le_refl _) _).setCell (Nat.le_refl _) _⟩
  case rest =>
    obtain ⟨x0, y0, ok0, g5, rfl, rfl, hv, hg5, hr5, hbc⟩ := hcut
    have B2 := Lib.hid (belowS B1.out hbc)
    have P2 := Lib.hid (P.out.below hbc P.out.lt)
    have Q2 := Lib.hid (Q.out.below hbc Q.out.lt)
    have I2 := Lib.hid hr5
    have V2 := Lib.hid hv
    clear hbc hr5 hv hg5 c0 c1 c2 c3
    go_wp2
    rename_i wc _ _
    have c0 := P2.out.cell (i := 0) (by rfl)
    have c1 := P2.out.cell (i := 1) (by rfl)
    have c2 := Q2.out.cell (i := 0) (by rfl)
    have c3 := Q2.out.cell (i := 1) (by rfl)
    go_cut [7, 8] (fun s7 s8 wx => ∃ (x y : Int) (ok : Bool) (g : Nat), s7 = .pointer (some ⟨g, 0, none⟩) ∧ s8 = .bool ok ∧ (x, y, ok) = paV a b c d ∧ wc.heap.size ≤ g ∧ Row wx g 24 [.int .i64 x, .int .i64 y] ∧ Below wc.heap.size wc wx)
    case first =>
      go_region_held3 (fun w' => w'.cell? ⟨w.heap.size, 0, none⟩ = some (.int .i64 a) ∧ w'.cell? ⟨w.heap.size, 1, none⟩ = some (.int .i64 b) ∧ w'.cell? ⟨w.heap.size + 1, 0, none⟩ = some (.int .i64 c) ∧ w'.cell? ⟨w.heap.size + 1, 1, none⟩ = some (.int .i64 d) ∧ Below w.heap.size w w' ∧ Below wc.heap.size wc w')
        (first
          | exact held_of c0 c1 c2 c3 B2.out (Below.refl _ _)
          | exact held_of c0 c1 c2 c3 B2.out (Below.refl _ _).drew
          | exact held_of c0 c1 c2 c3 B2.out ((Below.refl _ _).alloc (Nat.le_refl _) _).drew
          | exact held_of c0 c1 c2 c3 B2.out hBs
          | exact held_of c0 c1 c2 c3 B2.out hBp
          | exact held_of c0 c1 c2 c3 B2.out (hBs.alloc hBs.size _)
          | exact held_of c0 c1 c2 c3 B2.out (hBp.alloc hBp.size _)
          | exact held_of c0 c1 c2 c3 B2.out ((hBs.setCell (Nat.le_refl _) _).setCell (Nat.le_refl _) _)
          | exact held_of c0 c1 c2 c3 B2.out ((hBs.setCell hBp.size _).setCell hBp.size _)
          | exact held_of c0 c1 c2 c3 B2.out ((hBs.setCell hBq.size _).setCell hBq.size _)
          | exact held_of c0 c1 c2 c3 B2.out hBq
          | exact held_of c0 c1 c2 c3 B2.out (hBq.alloc hBq.size _))
        (first
          | (go_at_call 5; refine (toPlace_any _ _ _).mono ?_; rintro e wp ⟨rfl, hbp⟩; (try have hBq := hBp); have hBp := Below.trans (show Below wc.heap.size wc _ from (And.right (And.right (And.right (And.right (And.right (by assumption))))))) (hbp.mono (Below.size (And.right (And.right (And.right (And.right (And.right (by assumption)))))))); (first | (have hz := Row.below hz hbp hz.lt; have z0 := hz.cell (i := 0) (by rfl); have z1 := hz.cell (i := 1) (by rfl); have zf0 := hz.frozen 0; have zf1 := hz.frozen 1) | (have hz := Row.below (Row.new _ [.int .i64 0, .int .i64 0] 24) hbp (by simp); (try simp only [drew_size] at hz); have z0 := hz.cell (i := 0) (by rfl); have z1 := hz.cell (i := 1) (by rfl); have zf0 := hz.frozen 0; have zf1 := hz.frozen 1) | (have hz := Row.below (Row.drew (Row.new _ [.int .i64 0, .int .i64 0] 24)) hbp (by simp); (try simp only [drew_size] at hz); have z0 := hz.cell (i := 0) (by rfl); have z1 := hz.cell (i := 1) (by rfl); have zf0 := hz.frozen 0; have zf1 := hz.frozen 1) | skip))
          | (go_at_call 6; refine (implPlaceAfter_any a b c d HI.out.1 HI.out.2 _).mono ?_; rintro e ws ⟨x, y, ok, rfl, hv, hbs⟩; have hBs := Below.trans (show Below wc.heap.size wc _ from (And.right (And.right (And.right (And.right (And.right (by assumption))))))) (hbs.mono (Below.size (And.right (And.right (And.right (And.right (And.right (by assumption)))))))); (first | (have hz := Row.below hz hbs hz.lt; have z0 := hz.cell (i := 0) (by rfl); have z1 := hz.cell (i := 1) (by rfl); have zf0 := hz.frozen 0; have zf1 := hz.frozen 1) | (have hz := Row.below (Row.new _ [.int .i64 0, .int .i64 0] 24) hbs (by simp); (try simp only [drew_size] at hz); have z0 := hz.cell (i := 0) (by rfl); have z1 := hz.cell (i := 1) (by rfl); have zf0 := hz.frozen 0; have zf1 := hz.frozen 1) | (have hz := Row.below (Row.drew (Row.new _ [.int .i64 0, .int .i64 0] 24)) hbs (by simp); (try simp only [drew_size] at hz); have z0 := hz.cell (i := 0) (by rfl); have z1 := hz.cell (i := 1) (by rfl); have zf0 := hz.frozen 0; have zf1 := hz.frozen 1) | skip)))
      all_goals go_wp2
      all_goals go_meet
      all_goals first
        | exact ⟨x, y, ok, _, rfl, rfl, hv, hBs.size, Row.new ws [.int .i64 x, .int .i64 y] 24, hBs.alloc hBs.size _⟩
        | exact ⟨x, y, ok, _, rfl, rfl, hv, hBp.size, (hz.set 0 _).set 1 _, (hBs.setCell hBp.size _).setCell hBp.size _⟩
        | exact ⟨x, y, ok, _, rfl, rfl, hv, hBq.size, (hz.set 0 _).set 1 _, (hBs.setCell hBq.size _).setCell hBq.size _⟩
        | exact ⟨x, y, ok, _, rfl, rfl, hv, (Nat.le_refl _), (hz.set 0 _).set 1 _, (hBs.setCell (Nat.le_refl _) _).setCell (Nat.le_refl _) _⟩
    case rest =>
      obtain ⟨x, y, ok, g7, rfl, rfl, hv, hg7, hr7, hbc⟩ := hcut
      have hvv := hv.trans V2.out.symm
      obtain ⟨rfl, rfl, rfl⟩ : x = x0 ∧ y = y0 ∧ ok = ok0 := by simpa using hvv
      have B3 := Lib.hid (belowS B2.out hbc)
      have e0 := (I2.out.below hbc I2.out.lt).cell (i := 0) (by rfl)
      have e1 := (I2.out.below hbc I2.out.lt).cell (i := 1) (by rfl)
      have f0 := hr7.cell (i := 0) (by rfl)
      have f1 := hr7.cell (i := 1) (by rfl)
      have hbb : (ok == ok) = true := by simp
      have hbn : (ok != ok) = false := by simp
      clear hbc hr7 hv hg7 hvv c0 c1 c2 c3
      go_wp2_with fail
      refine (eqPlace_same x y _).mono ?_
      rintro e w6 ⟨rfl, hb6⟩
      have B6 := Lib.hid (belowS B3.out hb6)
      clear hb6
      go_wp2
      go_ret
      exact ⟨rfl, B6.out⟩
theorem two_of_length {α : Type} : ∀ {l : List α}, l.length = 2 → ∃ x y, l = [x, y]
  | [x, y], _ => ⟨x, y, rfl⟩
namespace fnExactPlaceAfter
open Go.ChangeShapes Go.WideShapes Go.ChangeAt Go.RowKit Go.Deep
theorem own : ownKnob Try.prog.godebug = none := by kernel_rfl
theorem laidOut : laidOutB Try.prog = true := by kernel_rfl
theorem cellsLP : Try.prog.cellsOf 23 = 2 := by kernel_rfl
set_option maxRecDepth 100000 in
theorem open_place {H : Type} {enc : TypeId × Value → H} {w : World} {spare : Nat → Bool} {r : Reach} {b0 base : Nat} {v : Value} {d : DataW H} {p : List MemPlace} (hv : Value.okWide Try.prog w r b0 23 v) (h : DataW.Trod enc Try.prog w base spare true 23 v d p) :
    ∃ a b : Int, v = .agg #[.int .i64 a, .int .i64 b] ∧ (Lit.int .i64 a).wf = true ∧ (Lit.int .i64 b).wf = true := by
  obtain ⟨cs, rfl, hsz⟩ := okWide_struct Try.underlying23 hv
  obtain ⟨c0, c1, rfl⟩ : ∃ c0 c1, cs = #[c0, c1] := by
    have hz : cs.size = 2 := hsz.trans cellsLP
    clear hsz hv h
    obtain ⟨l⟩ := cs
    have hl : l.length = 2 := hz
    obtain ⟨x, y, rfl⟩ := two_of_length hl
    exact ⟨x, y, rfl⟩
  obtain ⟨fuel, hf⟩ := h
  obtain ⟨xs, n, _, hx, _, hlen, hg⟩ := DataW.trod_struct Try.underlying23 hf
  have hxl : xs.length = 2 := hlen
  obtain ⟨y0, y1, rfl⟩ : ∃ y0 y1, xs = [y0, y1] := by
    exact two_of_length hxl
  have h1 : DataW.trod enc Try.prog w base spare true n 3 [c0] = some y0 := hg 0 _ rfl
  have h2 : DataW.trod enc Try.prog w base spare true n 3 [c1] = some y1 := hg 1 _ rfl
  obtain ⟨z0, e0, _, w0⟩ := DataW.trod_int Try.underlying3 h1
  obtain ⟨z1, e1, _, w1⟩ := DataW.trod_int Try.underlying3 h2
  simp only [List.cons.injEq, and_true] at e0 e1
  subst e0 e1
  exact ⟨z0, z1, rfl, w0, w1⟩
set_option maxRecDepth 100000 in
theorem lifted (os : Os) (started : os.Started) (H : Type) (enc : TypeId × Value → H) :
    ReturnsInHanded {} Try.checked os 3 .any (Rows.fnExactPlaceAfterSpec.pre6 enc Try.prog Try.f3 Rows.fnExactPlaceAfterRow.domain false) (Rows.fnExactPlaceAfterSpec.post enc Try.prog Try.f3 false true false false) := by
  refine returnsInHanded_of_change (C := Try.checked) own started (by kernel_rfl) Try.func3
    (ChangeSpec.witness6 (enc := enc) (C := Try.checked) false ⟨#[], #[.agg #[.int .i64 0, .int .i64 0], .agg #[.int .i64 0, .int .i64 0]], []⟩ 8 (by kernel_rfl) (by kernel_rfl) (by kernel_rfl) (by kernel_rfl)) ?_
  intro W base args ds gs before hval0 hW hcnd _
  have hval : ∀ (j : Nat) t v, Try.f3.params[j]? = some t → args[j]? = some v → Value.okWide Try.prog W .any base t v := hval0
  have hW' := hW
  obtain ⟨p, q, hA0, hV, hbef, hfz, hnd⟩ := hW
  have hA : DataW.TrodAll enc Try.prog W 0 (fun _ => true) true Try.f3.params.toList args.toList ds p := hA0
  rw [Try.params3] at hA hval
  obtain ⟨v0, vs0, d0, ds0, p0, q0, hargs, rfl, rfl, h0, r0⟩ := trodAll_cons hA
  obtain ⟨v1, vs1, d1, ds1, p1, q1, rfl, rfl, rfl, h1, r1⟩ := trodAll_cons r0
  obtain ⟨rfl, rfl, rfl⟩ := trodAll_nil r1
  obtain rfl : args = #[v0, v1] := by cases args; simp_all
  obtain ⟨rfl, rfl⟩ := trodVars_none hV
  have hlt : ∀ x ∈ before, x.block < W.heap.size := fun x hx => by simpa using hW'.lt x hx
  have again0 : ∀ W' : World, Below W.heap.size W W' → DataW.Trod enc Try.prog W' 0 (fun b => decide (b < W.heap.size)) true 23 v0 d0 p0 := fun W' hb => Below.trod laidOut (by kernel_rfl) (of_decide_eq_true (by kernel_rfl)) h0 hb (fun x hx => hlt x (by rw [hbef]; simp [hx]))
  have again1 : ∀ W' : World, Below W.heap.size W W' → DataW.Trod enc Try.prog W' 0 (fun b => decide (b < W.heap.size)) true 23 v1 d1 p1 := fun W' hb => Below.trod laidOut (by kernel_rfl) (of_decide_eq_true (by kernel_rfl)) h1 hb (fun x hx => hlt x (by rw [hbef]; simp [hx]))
  have walk : Calls Try.prog 3 #[v0, v1] W fun e w' => e = .returned (.bool true) ∧ Below W.heap.size W w' := by
    obtain ⟨a, b, rfl, wa, wb⟩ := open_place (hval 0 23 v0 rfl rfl) h0
    obtain ⟨c, d, rfl, wc, wd⟩ := open_place (hval 1 23 v1 rfl rfl) h1
    exact lawPlaceAfter a b c d (bounds_i64 wb) (bounds_i64 wd) W
  clear hA0 hval0
  refine walk.mono fun e W' ⟨he, hb⟩ => ?_
  subst he
  exact ⟨_, rfl, _, _, _, [], p0 ++ (p1 ++ ([])), [], hW', trodAll_cons_mk (shut_bool Try.underlying4 _) trodAll_mk0, (trodAll_cons_mk (again0 _ hb) (trodAll_cons_mk (again1 _ hb) trodAll_mk0)), hV, hb.frame _, fun h => by cases h⟩
theorem over : Rows.fnExactPlaceAfterRow.holds Try.pinned (OpenSpec.ofChange Rows.fnExactPlaceAfterSpec) :=
  OpenClaim.holds_of_wide 3 Try.f3 rfl rfl rfl rfl rfl rfl rfl ⟨rfl, rfl, rfl, rfl, rfl⟩ rfl rfl rfl rfl rfl (by kernel_rfl) Try.func3 (by kernel_rfl)
    (of_decide_eq_true (by kernel_rfl)) (by unfold Func.isWrapper; first | (rw [if_pos (by decide +kernel)]; kernel_rfl) | (rw [if_neg (by decide +kernel)]; exact ⟨rfl, rfl⟩))
    (fun os started H enc _ => lifted os started H enc)

/-- ████ THE STATEMENT ████ -/
theorem proved : Rows.FnExactPlaceAfterSaid :=
  over
#print axioms proved
end fnExactPlaceAfter
end Go.Proofs.Ytppgdigcopkeiaa
