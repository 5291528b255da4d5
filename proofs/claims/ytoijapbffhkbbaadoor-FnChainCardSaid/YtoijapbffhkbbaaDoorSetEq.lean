/-
  Sets of scopes compared. Plain facts.
-/
import Derived.Test.YtoijapbffhkbbaaDoorWSet
import Derived.Stop.BytesEq
namespace Go.Proofs.YtoijapbffhkbbaaDoor
open Go Go.RowKit
theorem all_range_eqB : ∀ (xs ys : List Bool), xs.length = ys.length → ((List.range xs.length).all fun i => xs.getD i false == ys.getD i false) = (xs == ys)
  | [], [], _ => rfl
  | x :: xs, y :: ys, h => by
    have ih := all_range_eqB xs ys (by simpa using h)
    rw [List.length_cons, List.range_succ_eq_map, List.all_cons, List.all_map]
    simp only [List.getD_cons_zero, Function.comp_def, List.getD_cons_succ, ih]
    simp [List.cons_beq_cons]
  | [], _ :: _, h => by simp at h
  | _ :: _, [], h => by simp at h
theorem run_equalIn_bools {P : Program} (w : World) (d : Nat) (t e : TypeId) (n : Nat) (ht : P.underlying t = some (.array n e)) (he : P.underlying e = some .bool) (hsz : ∀ w, (sizeOf e).run P w = .ok 1 w)
    (xs ys : List Bool) (hx : xs.length = n) (hy : ys.length = n) :
    (Op.equalIn (d + 2) t (.agg (xs.map Value.bool).toArray) (.agg (ys.map Value.bool).toArray)).run P w = .ok (xs == ys) w := by
  rw [← all_range_eqB xs ys (hx.trans hy.symm), hx, List.range_eq_range', Op.equalIn]
  simp only [Sem.run_bind, run_underlying ht, Result.andThen_ok, hsz, Std.Legacy.Range.forIn_eq_forIn_range', Std.Legacy.Range.size, Nat.sub_zero, Nat.add_sub_cancel, Nat.div_one]
  have hl : ∀ i ∈ List.range' 0 n 1, i < n := fun i hi => by simpa using (List.mem_range'_1.1 hi).2
  generalize List.range' 0 n 1 = l at hl ⊢
  induction l with
  | nil => simp
  | cons i l ih =>
    have hi : i < n := hl i (by simp)
    have px : (part e (xs.map Value.bool).toArray (i * 1)).run P w = .ok (.bool (xs.getD i false)) w := by
      simp [part, isAgg, run_underlying he, List.getD, List.getElem?_eq_getElem (show i < xs.length by omega)]
    have py : (part e (ys.map Value.bool).toArray (i * 1)).run P w = .ok (.bool (ys.getD i false)) w := by
      simp [part, isAgg, run_underlying he, List.getD, List.getElem?_eq_getElem (show i < ys.length by omega)]
    have pe : (Op.equalIn (d + 1) e (.bool (xs.getD i false)) (.bool (ys.getD i false))).run P w = .ok (xs.getD i false == ys.getD i false) w := run_equalIn_bool' w d e _ _ he
    simp only [List.forIn_cons, Sem.run_bind, px, py, pe, Result.andThen_ok, List.all_cons]
    cases hb : (xs.getD i false == ys.getD i false)
    · simp
    · simp only [Bool.not_true, Bool.false_eq_true, if_false, Sem.run_pure, Result.andThen_ok, Bool.true_and]
      exact ih fun j hj => hl j (by simp [hj])
theorem run_equal_set (w : World) (b0 b1 b2 b3 b4 b5 c0 c1 c2 c3 c4 c5 : Bool) :
    (Op.equalIn 10000 106 (.agg #[.bool b0, .bool b1, .bool b2, .bool b3, .bool b4, .bool b5]) (.agg #[.bool c0, .bool c1, .bool c2, .bool c3, .bool c4, .bool c5])).run Tryd.prog w = .ok ((b0 == c0) && ((b1 == c1) && ((b2 == c2) && ((b3 == c3) && ((b4 == c4) && (b5 == c5)))))) w := by
  have h := run_equalIn_bools (P := Tryd.prog) w 9998 106 4 6 Tryd.underlying106 Tryd.underlying4 (fun _ => by kernel_rfl) [b0, b1, b2, b3, b4, b5] [c0, c1, c2, c3, c4, c5] rfl rfl
  simpa [List.cons_beq_cons] using h
theorem set_guard : Tryd.prog.eqGuardType Tryd.prog.depth 106 = false := by kernel_rfl
theorem set_eq_iff (p q : Nat → Bool) : ((p 0 == q 0) && ((p 1 == q 1) && ((p 2 == q 2) && ((p 3 == q 3) && ((p 4 == q 4) && (p 5 == q 5)))))) = true ↔ ∀ i, i < 6 → p i = q i := by
  simp only [Bool.and_eq_true, beq_iff_eq]
  constructor
  · rintro ⟨h0, h1, h2, h3, h4, h5⟩ i hi
    rcases (show i = 0 ∨ i = 1 ∨ i = 2 ∨ i = 3 ∨ i = 4 ∨ i = 5 by omega) with rfl | rfl | rfl | rfl | rfl | rfl <;> assumption
  · intro h
    exact ⟨h 0 (by omega), h 1 (by omega), h 2 (by omega), h 3 (by omega), h 4 (by omega), h 5 (by omega)⟩
/-- A chain within another, as sets tell it. -/
theorem within_iff {ss : List Sc} (h : Climbs ss) (h6 : ss.length ≤ 6) {s m : Nat} (hs : s < ss.length) :
    (∀ i, i < 6 → (decide (i ∈ chainP ss m) && decide (i ∈ chainP ss s)) = decide (i ∈ chainP ss s)) ↔ s ∈ chainP ss m := by
  rw [chain_sub h]
  constructor
  · intro hh k hk
    have hk6 : k < 6 := by have := chain_le h s k hk; omega
    have := hh k hk6
    simp [hk] at this
    exact this
  · intro hh i _
    by_cases hi : i ∈ chainP ss s
    · simp [hi, hh i hi]
    · simp [hi]
/-- The same sets are of the same scope. -/
theorem same_iff {ss : List Sc} (h : Climbs ss) (h6 : ss.length ≤ 6) {a b m : Nat} (ha : a < ss.length) (hb : b < ss.length) (hm : m < ss.length) :
    (∀ i, i < 6 → decide (i ∈ chainP ss m) = (decide (i ∈ chainP ss a) && decide (i ∈ chainP ss b))) ↔ m = commonP ss a b := by
  constructor
  · intro hh
    refine chain_inj h fun k => ?_
    rw [common_chain h ha hb]
    by_cases hk : k < 6
    · have := hh k hk
      rw [← Bool.decide_and, decide_eq_decide] at this
      exact this
    · constructor
      · intro hk2; have := chain_le h m k hk2; omega
      · intro hk2; have := chain_le h a k hk2.1; omega
  · rintro rfl i _
    rw [← Bool.decide_and, decide_eq_decide]
    exact common_chain h ha hb i
end Go.Proofs.YtoijapbffhkbbaaDoor
