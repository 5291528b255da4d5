/-
  What the laws whose result is a graph, or a graph and a place, share. Plain facts.
-/
import Derived.Test.YtadpgoiiopfnnaaDoorLawFlat
import Derived.Test.YtadpgoiiopfnnaaDoorWSpecMov2
namespace Go.Proofs.YtadpgoiiopfnnaaDoor
open Go Go.RowKit
theorem eqPlace_own (a b : Int) (w : World) :
    Calls Tryd.prog 25 #[.agg #[.int .i64 a, .int .i64 b], .agg #[.int .i64 a, .int .i64 b]] w fun e w' => e = .returned (.bool true) ∧ Below w.heap.size w w' := by
  go_enter Tryd.func25, Tryd.ntmps25
  go_wp2
  go_ret
  exact ⟨rfl, by repeat (first | exact Below.refl _ _ | apply Below.drew | refine Below.alloc ?_ (by simp) _)⟩
theorem below_al4 (W : World) (o : Obj) : Below W.heap.size W (W.alloc o) := (Below.refl _ _).alloc (Nat.le_refl _) o
theorem Valid.smallGr {l : List Sc} (h : Valid l) : SmallGr l := ⟨by have := h.count; omega, fun s hs => by have := h.five s hs; omega⟩
def grPlVal (ok : Prop) (l : List Sc) (a b : Int) (xs : List Sc) (x y : Int) (q : Bool) : Prop := (¬ ok ∧ xs = [] ∧ x = 0 ∧ y = 0 ∧ q = false) ∨ (ok ∧ xs = l ∧ x = a ∧ y = b ∧ q = true)
theorem GrPlGot.val {ok : Prop} {l : List Sc} {a b : Int} {w w' : World} {e : Ending} (h : GrPlGot ok l a b w e w') : ∃ oa cap xs hs x y q, e = .returned (.tuple #[.agg #[.slice oa xs.length cap], .agg #[.int .i64 x, .int .i64 y], .bool q]) ∧ grPlVal ok l a b xs x y q ∧ HoldsScopes w' oa xs ∧ OwnGr w' w.heap.size (.slice oa xs.length cap) xs hs ∧ Below w.heap.size w w' := by
  rcases h with ⟨h1, v, hs, rfl, ho, hb⟩ | ⟨h1, v, hs, rfl, ho, hb⟩
  · obtain ⟨oa, cap, rfl, hh⟩ := ho.holds
    exact ⟨oa, cap, [], hs, 0, 0, false, rfl, .inl ⟨h1, rfl, rfl, rfl, rfl⟩, hh, ho, hb⟩
  · obtain ⟨oa, cap, rfl, hh⟩ := ho.holds
    exact ⟨oa, cap, l, hs, a, b, true, rfl, .inr ⟨h1, rfl, rfl, rfl, rfl⟩, hh, ho, hb⟩
theorem grPlVal.same {ok : Prop} {l xs ys : List Sc} {a b x y x' y' : Int} {q q' : Bool} (h : grPlVal ok l a b xs x y q) (k : grPlVal ok l a b ys x' y' q') : xs = ys ∧ x = x' ∧ y = y' ∧ q = q' := by
  rcases h with ⟨h1, h2, h3, h4, h5⟩ | ⟨h1, h2, h3, h4, h5⟩ <;> rcases k with ⟨k1, k2, k3, k4, k5⟩ | ⟨k1, k2, k3, k4, k5⟩
  · exact ⟨by rw [h2, k2], by rw [h3, k3], by rw [h4, k4], by rw [h5, k5]⟩
  · exact absurd k1 h1
  · exact absurd h1 k1
  · exact ⟨by rw [h2, k2], by rw [h3, k3], by rw [h4, k4], by rw [h5, k5]⟩
theorem grPlVal.small {ok : Prop} {l xs : List Sc} {a b x y : Int} {q : Bool} (h : grPlVal ok l a b xs x y q) (hl : ok → SmallGr l) : SmallGr xs := by
  rcases h with ⟨_, h2, _⟩ | ⟨h1, h2, _⟩
  · subst h2; exact ⟨by simp, fun s hs => by cases hs⟩
  · subst h2; exact hl h1
end Go.Proofs.YtadpgoiiopfnnaaDoor
