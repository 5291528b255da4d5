/-
  The walks of the given l7List and l7Changes. Conditions: both graphs are valid and lie in memory.
-/
import Derived.Test.YtgbbhiihhcdpbaaDoorWSpecItems
import Derived.Test.YtgbbhiihhcdpbaaDoorJE
import Derived.Deep.RegionHeld3
namespace Go.Proofs.YtgbbhiihhcdpbaaDoor
open Go Go.RowKit
set_option maxRecDepth 100000 in
set_option maxHeartbeats 4000000 in
theorem l7List_any (xs ys : List (Int × Int)) (ox oy : Option Addr) (cx cy : Nat) (w : World) (hx : xs.length ≤ 1000000) (hy : ys.length ≤ 1000000) (ax : ArgPlaces w ox xs) (ay : ArgPlaces w oy ys) :
    Calls Tryd.prog 95 #[.slice ox xs.length cx, .slice oy ys.length cy] w fun e w' => e = .returned (.bool (decide (xs = ys))) ∧ Below w.heap.size w w' := by
  have AX := Lib.hid ax
  have AY := Lib.hid ay
  clear ax ay
  obtain ⟨q, hq⟩ : ∃ q, decide (xs = ys) = q := ⟨_, rfl⟩
  rw [hq]
  have HQ := Lib.hid hq
  clear hq
  obtain ⟨ql, hql⟩ : ∃ ql, ((xs.length : Int) == (ys.length : Int)) = ql := ⟨_, rfl⟩
  have HL : Hid (ql = true ↔ xs.length = ys.length) := Lib.hid (by rw [← hql]; simp; omega)
  by_cases hd : ys.length < xs.length
  · have HD := Lib.hid hd
    go_enter Tryd.func95, Tryd.ntmps95
    go_wp2
    go_loopw [11] (fun i wr => ∃ k : Nat, i = .int .i64 k ∧ k ≤ ys.length ∧ Hid (∀ m, m < k → xs[m]? = ys[m]?) ∧ Hid (Below w.heap.size w wr)) (fun i _ => ys.length - (intOf i).toNat)
    case atStart => exact ⟨0, rfl, Nat.zero_le _, Lib.hid (fun m hm => absurd hm (by omega)), Lib.hid (Below.refl _ _)⟩
    case round =>
      obtain ⟨k, rfl, hk, HR, HW⟩ := hrel
      by_cases hlt : k < ys.length
      · have hlt1 : k < xs.length := by omega
        have hlt2 : k < ys.length := by omega
        obtain ⟨⟨a, b⟩, hp⟩ : ∃ p, xs[k]? = some p := ⟨_, List.getElem?_eq_getElem hlt1⟩
        obtain ⟨⟨c, d⟩, hp2⟩ : ∃ p, ys[k]? = some p := ⟨_, List.getElem?_eq_getElem hlt2⟩
        obtain ⟨b1, f1, rfl, hb1, q1⟩ := (AX.out.below HW.out).at (by omega)
        obtain ⟨b2, f2, rfl, hb2, q2⟩ := (AY.out.below HW.out).at (by omega)
        obtain ⟨x0, x1⟩ := q1 k _ hp
        obtain ⟨y0, y1⟩ := q2 k _ hp2
        have x0' := cell_drew x0
        have x1' := cell_drew x1
        have y0' := cell_drew y0
        have y1' := cell_drew y1
        dsimp only at x0 x1 y0 y1 x0' x1' y0' y1'
        have HNX : Hid ((a, b) = (c, d) → ∀ m, m < k + 1 → xs[m]? = ys[m]?) := Lib.hid (by
          intro h m hm
          by_cases he : m = k
          · subst he
            rw [hp, hp2, h]
          · exact HR.out m (by omega))
        have HBAD : Hid ((a, b) ≠ (c, d) → q = false) := Lib.hid (by
          intro h
          rw [← HQ.out]
          refine decide_eq_false fun e => h ?_
          rw [e, hp2] at hp
          exact (Option.some.inj hp).symm)
        clear hp hp2 q1 q2 hb1 hb2
        by_cases h1 : a = c
        · subst h1
          by_cases h2 : b = d
          · subst h2
            have HG := Lib.hid (HNX.out rfl)
            go_wp2
            go_region
            all_goals go_wp2
            all_goals go_roundw
            all_goals first
              | (case rel => exact ⟨k + 1, by go_num, by omega, HG, Lib.hid HW.out.drew⟩)
              | (case measure => simp only [intOf]; omega)
          · have HF := Lib.hid (HBAD.out (fun e => h2 (Prod.mk.inj e).2))
            have e1 : (b == d) = false := by simpa using h2
            go_wp2
            go_region
            all_goals go_wp2
            all_goals go_ret
            all_goals exact ⟨by rw [HF.out]; rfl, HW.out.drew⟩
        · have HF := Lib.hid (HBAD.out (fun e => h1 (Prod.mk.inj e).1))
          have e1 : (a == c) = false := by simpa using h1
          go_wp2
          go_region
          all_goals go_wp2
          all_goals go_ret
          all_goals exact ⟨by rw [HF.out]; rfl, HW.out.drew⟩
      · have hke : k = ys.length := by omega
        subst hke
        have HS : Hid (q = ql) := Lib.hid (by
          rw [← HQ.out]
          by_cases hl : xs.length = ys.length
          · rw [HL.out.2 hl]
            refine decide_eq_true (List.ext_getElem? fun m => ?_)
            by_cases hm : m < xs.length
            · exact HR.out m (by omega)
            · rw [List.getElem?_eq_none (by omega), List.getElem?_eq_none (by omega)]
          · cases ql with
            | true => exact absurd (HL.out.1 rfl) hl
            | false => exact decide_eq_false fun e => hl (by rw [e]))
        cases ql
        all_goals go_wp2
        all_goals go_ret
        all_goals exact ⟨by rw [HS.out]; rfl, HW.out⟩
  · have HD := Lib.hid hd
    go_enter Tryd.func95, Tryd.ntmps95
    go_wp2
    go_loopw [11] (fun i wr => ∃ k : Nat, i = .int .i64 k ∧ k ≤ xs.length ∧ Hid (∀ m, m < k → xs[m]? = ys[m]?) ∧ Hid (Below w.heap.size w wr)) (fun i _ => xs.length - (intOf i).toNat)
    case atStart => exact ⟨0, rfl, Nat.zero_le _, Lib.hid (fun m hm => absurd hm (by omega)), Lib.hid (Below.refl _ _)⟩
    case round =>
      obtain ⟨k, rfl, hk, HR, HW⟩ := hrel
      by_cases hlt : k < xs.length
      · have hlt1 : k < xs.length := by omega
        have hlt2 : k < ys.length := by omega
        obtain ⟨⟨a, b⟩, hp⟩ : ∃ p, xs[k]? = some p := ⟨_, List.getElem?_eq_getElem hlt1⟩
        obtain ⟨⟨c, d⟩, hp2⟩ : ∃ p, ys[k]? = some p := ⟨_, List.getElem?_eq_getElem hlt2⟩
        obtain ⟨b1, f1, rfl, hb1, q1⟩ := (AX.out.below HW.out).at (by omega)
        obtain ⟨b2, f2, rfl, hb2, q2⟩ := (AY.out.below HW.out).at (by omega)
        obtain ⟨x0, x1⟩ := q1 k _ hp
        obtain ⟨y0, y1⟩ := q2 k _ hp2
        have x0' := cell_drew x0
        have x1' := cell_drew x1
        have y0' := cell_drew y0
        have y1' := cell_drew y1
        dsimp only at x0 x1 y0 y1 x0' x1' y0' y1'
        have HNX : Hid ((a, b) = (c, d) → ∀ m, m < k + 1 → xs[m]? = ys[m]?) := Lib.hid (by
          intro h m hm
          by_cases he : m = k
          · subst he
            rw [hp, hp2, h]
          · exact HR.out m (by omega))
        have HBAD : Hid ((a, b) ≠ (c, d) → q = false) := Lib.hid (by
          intro h
          rw [← HQ.out]
          refine decide_eq_false fun e => h ?_
          rw [e, hp2] at hp
          exact (Option.some.inj hp).symm)
        clear hp hp2 q1 q2 hb1 hb2
        by_cases h1 : a = c
        · subst h1
          by_cases h2 : b = d
          · subst h2
            have HG := Lib.hid (HNX.out rfl)
            go_wp2
            go_region
            all_goals go_wp2
            all_goals go_roundw
            all_goals first
              | (case rel => exact ⟨k + 1, by go_num, by omega, HG, Lib.hid HW.out.drew⟩)
              | (case measure => simp only [intOf]; omega)
          · have HF := Lib.hid (HBAD.out (fun e => h2 (Prod.mk.inj e).2))
            have e1 : (b == d) = false := by simpa using h2
            go_wp2
            go_region
            all_goals go_wp2
            all_goals go_ret
            all_goals exact ⟨by rw [HF.out]; rfl, HW.out.drew⟩
        · have HF := Lib.hid (HBAD.out (fun e => h1 (Prod.mk.inj e).1))
          have e1 : (a == c) = false := by simpa using h1
          go_wp2
          go_region
          all_goals go_wp2
          all_goals go_ret
          all_goals exact ⟨by rw [HF.out]; rfl, HW.out.drew⟩
      · have hke : k = xs.length := by omega
        subst hke
        have HS : Hid (q = ql) := Lib.hid (by
          rw [← HQ.out]
          by_cases hl : xs.length = ys.length
          · rw [HL.out.2 hl]
            refine decide_eq_true (List.ext_getElem? fun m => ?_)
            by_cases hm : m < xs.length
            · exact HR.out m (by omega)
            · rw [List.getElem?_eq_none (by omega), List.getElem?_eq_none (by omega)]
          · cases ql with
            | true => exact absurd (HL.out.1 rfl) hl
            | false => exact decide_eq_false fun e => hl (by rw [e]))
        cases ql
        all_goals go_wp2
        all_goals go_ret
        all_goals exact ⟨by rw [HS.out]; rfl, HW.out⟩
end Go.Proofs.YtgbbhiihhcdpbaaDoor
