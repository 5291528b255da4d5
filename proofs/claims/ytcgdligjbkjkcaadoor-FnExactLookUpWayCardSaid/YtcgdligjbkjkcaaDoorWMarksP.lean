/-
  The walks of the laws' eqPlaceS, markPlaceS, heldPlaceS: lists of places compared, marked, and found marked. Condition: the lists' memory is their own.
-/
import Derived.Test.YtcgdligjbkjkcaaDoorWPlacesB
import Derived.Test.YtcgdligjbkjkcaaDoorWMarks
namespace Go.Proofs.YtcgdligjbkjkcaaDoor
open Go Go.RowKit
theorem ArgPlaces.at {w : World} {oa : Option Addr} {ps : List (Int × Int)} (h : ArgPlaces w oa ps) (hne : 0 < ps.length) : ∃ b off, oa = some ⟨b, off, none⟩ ∧ b < w.heap.size ∧ HoldsPlaces w b off ps := by
  rcases h with h | h
  · subst h; simp at hne
  · exact h
/-- Places by numbers. -/
def natPl (l : List (Nat × Nat)) : List (Int × Int) := l.map fun p => ((p.1 : Int), (p.2 : Int))
theorem natPl_length (l : List (Nat × Nat)) : (natPl l).length = l.length := by simp [natPl]
theorem natPl_snoc (l : List (Nat × Nat)) (p : Nat × Nat) : natPl (l ++ [p]) = natPl l ++ [((p.1 : Int), (p.2 : Int))] := by simp [natPl]
theorem argPlaces_of_owns {w : World} {B : Nat} {v : Value} {ps : List (Int × Int)} (h : w.ownsRow B 87 2 v ps.length (placeCells ps)) : ∃ oa cap, v = .slice oa ps.length cap ∧ ArgPlaces w oa ps := by
  obtain ⟨hl, h2 | ⟨g, cap, cur, hv, hB, hh, hn, _, hs, ht⟩⟩ := h
  · exact ⟨none, 0, by rw [h2.1, h2.2], .inl (List.eq_nil_of_length_eq_zero h2.2)⟩
  · refine ⟨_, cap, hv, .inr ⟨g, 0, rfl, (Array.getElem?_eq_some_iff.1 hh).1, fun i p hp => ?_⟩⟩
    have hil := (List.getElem?_eq_some_iff.1 hp).1
    obtain ⟨h0, h1⟩ := placeCells_at ps i p hp
    rw [← ht] at h0 h1
    rw [List.getElem?_take_of_lt (by omega)] at h0 h1
    rw [Nat.zero_add]
    constructor
    · simp [World.cell?, hh]; simpa using h0
    · simp [World.cell?, hh]; simpa using h1
/-- A row of places that is the list's own. -/
def OwnPl (w : World) (B : Nat) (oa : Option Addr) (n : Nat) : Prop := n = 0 ∨ ∃ (g : Nat) (vs : List Value), oa = some ⟨g, 0, none⟩ ∧ B ≤ g ∧ Row w g 87 vs ∧ n * 2 ≤ vs.length
/-- It holds the numbers from k on. -/
def MarkedPl (w : World) (oa : Option Addr) (n : Nat) (k : Int) : Prop := n = 0 ∨ ∃ (g : Nat) (vs : List Value), oa = some ⟨g, 0, none⟩ ∧ Row w g 87 vs ∧ ∀ i, i < n → vs[i * 2]? = some (.int .i64 (k + 2 * i)) ∧ vs[i * 2 + 1]? = some (.int .i64 (k + 2 * i + 1))
theorem ownPl_of_owns {w : World} {B n : Nat} {oa : Option Addr} {cap : Nat} {xs : List Value} (h : w.ownsRow B 87 2 (.slice oa n cap) n xs) : OwnPl w B oa n := by
  obtain ⟨hl, h2 | ⟨g, cap', cur, hv, hB, hh, hn, _, hs, ht⟩⟩ := h
  · exact .inl h2.2
  · simp only [Value.slice.injEq] at hv
    obtain ⟨rfl, _, _⟩ := hv
    exact .inr ⟨g, cur.toList, rfl, hB, hh, by rw [Array.length_toList]; omega⟩
theorem OwnPl.below {w w' : World} {B n : Nat} {oa : Option Addr} (h : OwnPl w B oa n) (hb : Below w.heap.size w w') : OwnPl w' B oa n := by
  rcases h with h | ⟨g, vs, h1, h2, h3, h4⟩
  · exact .inl h
  · exact .inr ⟨g, vs, h1, h2, h3.below hb h3.lt, h4⟩
theorem MarkedPl.below {w w' : World} {n : Nat} {oa : Option Addr} {k : Int} (h : MarkedPl w oa n k) (hb : Below w.heap.size w w') : MarkedPl w' oa n k := by
  rcases h with h | ⟨g, vs, h1, h3, h4⟩
  · exact .inl h
  · exact .inr ⟨g, vs, h1, h3.below hb h3.lt, h4⟩
/-- A slice of places that was appended to by one, as the operation runs it where an order is drawn. -/
theorem infoPl : (Tryd.prog.info? 87).map (fun i => (i.zero, i.size, i.bytes)) = some (some (.agg #[.int .i64 0, .int .i64 0]), 2, 16) := infoPlace
theorem cells_new2 (w : World) (x y : Value) (t : TypeId) : ∀ (j : Nat) (u : Value), [x, y][j]? = some u → (w.alloc (.cells #[x, y] t)).cell? ((⟨w.heap.size, 0, none⟩ : Addr).add j) = some u := by
  intro j u hu
  have hR := Row.new w [x, y] t
  have h2 : (⟨w.heap.size, 0, none⟩ : Addr).add j = ⟨w.heap.size, j, none⟩ := by
    unfold Addr.add
    split <;> simp_all
  rw [h2]
  exact hR.cell hu
theorem append_place {W : World} {base k : Nat} {v : Value} {xs : List Value} (hrow : W.ownsRow base 87 2 v k xs) (x y : Int) (hk : k < 1000000) (hbase : base ≤ W.heap.size) (ty : TypeId) :
    ∃ v' w', (Builtin.append_ #[36, 36] ty #[v, .slice (some ⟨W.heap.size, 0, none⟩) 1 1]).run Tryd.prog (W.alloc (.cells #[.int .i64 x, .int .i64 y] 87)).drew = .ok v' w' ∧ w'.ownsRow base 87 2 v' (k + 1) (xs ++ [.int .i64 x, .int .i64 y]) ∧ (W.alloc (.cells #[.int .i64 x, .int .i64 y] 87)).grownBy w' v.ownBlock := by
  obtain ⟨i0, hi, hz0, hz1, hz2⟩ := info_parts infoPl
  obtain ⟨v', w', hrun, h2, h3, _, _⟩ := run_append_own_at (P := Tryd.prog) (W.alloc (.cells #[.int .i64 x, .int .i64 y] 87)).drew base 36 ty 87 i0 (.agg #[.int .i64 0, .int .i64 0]) 2 16 Tryd.underlying36 hi hz0 hz1 hz2 rfl (by decide) v k xs (hrow.alloc _).drew ⟨W.heap.size, 0, none⟩ 1 1 [.int .i64 x, .int .i64 y] rfl (cells_new2 W _ _ _)
    (by intro u hu; simp only [List.mem_cons, List.mem_nil_iff, or_false] at hu; rcases hu with rfl | rfl <;> rfl) (by unfold maxLen; omega) (by omega) (by show base ≤ (W.alloc _).heap.size; simp; omega)
  exact ⟨v', w', hrun, h2, ⟨h3.os, h3.tape, h3.output, h3.size, h3.block⟩⟩
theorem below_append2 {W w' : World} {base k n size : Nat} {e : TypeId} {v : Value} {xs : List Value} {o : Obj} (hrow : W.ownsRow base e size v k xs) (hg : (W.alloc o).grownBy w' v.ownBlock) (hb : n ≤ base) (hW : n ≤ W.heap.size) : Below n W w' := by
  refine ((Below.refl n W).alloc hW o).grown hg (by simp; omega) (fun r e => ?_)
  obtain ⟨_, h2 | ⟨g', cap, cur, hv, hB, _, _⟩⟩ := hrow
  · rw [h2.1] at e; simp [Value.ownBlock] at e
  · rw [hv] at e; simp only [Value.ownBlock, Option.some.injEq] at e; omega
/-- What a given list function of places answers, with a truth; the empty list may be one of its own. -/
def PlGot2 (ok : Prop) (l : List (Int × Int)) (w : World) (e : Ending) (w' : World) : Prop :=
  (¬ ok ∧ ∃ g, e = .returned (.tuple #[.slice (some ⟨g, 0, none⟩) 0 0, .bool false]) ∧ Below w.heap.size w w') ∨
  (ok ∧ ∃ v, e = .returned (.tuple #[v, .bool true]) ∧ w'.ownsRow w.heap.size 87 2 v l.length (placeCells l) ∧ Below w.heap.size w w')
def PlGot (ok : Prop) (l : List (Int × Int)) (w : World) (e : Ending) (w' : World) : Prop :=
  (¬ ok ∧ e = .returned (.tuple #[.slice none 0 0, .bool false]) ∧ Below w.heap.size w w') ∨
  (ok ∧ ∃ v, e = .returned (.tuple #[v, .bool true]) ∧ w'.ownsRow w.heap.size 87 2 v l.length (placeCells l) ∧ Below w.heap.size w w')
/-- What the given list functions of places leave. -/
def PlsGot (l : List (Int × Int)) (w : World) (e : Ending) (w' : World) : Prop := ∃ v, e = .returned v ∧ w'.ownsRow w.heap.size 87 2 v l.length (placeCells l) ∧ Below w.heap.size w w'
end Go.Proofs.YtcgdligjbkjkcaaDoor
