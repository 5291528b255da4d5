/-
  What the walks of the exact laws over graphs share: the copies of a graph, their comparison, errors carried along. Plain facts. What the walks of the exact laws with a list of numbers and a truth share. Plain facts. What the walks of the exact laws with a list of places and a truth share. Plain facts.
-/
import Derived.Test.YtadpgoiiopfnnaaDoorWImplValid
import Derived.Test.YtadpgoiiopfnnaaDoorWEq
import Derived.Deep.RegionWith
import Derived.Test.YtadpgoiiopfnnaaDoorWSpecChain
import Derived.Test.YtadpgoiiopfnnaaDoorWMarkGraph
import Derived.Test.YtadpgoiiopfnnaaDoorWMarksP
namespace Go.Proofs.YtadpgoiiopfnnaaDoor
open Go Go.RowKit
/-- The copy of a graph, as the laws make it. -/
theorem toGraph_holds {ss : List Sc} (hF : Fair ss) {w0 : World} (oa : Option Addr) (cap : Nat) (hc : HoldsScopes w0 oa ss) {w : World} (hb : Below w0.heap.size w0 w) :
    Calls Tryd.prog 17 #[.agg #[.slice oa ss.length cap]] w fun e w' => ∃ g, e = .returned (.agg #[.slice (some ⟨g, 0, none⟩) ss.length ss.length]) ∧ HoldsScopes w' (some ⟨g, 0, none⟩) ss ∧ Below w.heap.size w w' :=
  (toGraph_any ss oa cap w hF.count hF.items (hc.below hb (Nat.le_refl _))).mono fun _ _ ⟨g, _, h1, _, _, h4, h5, h6⟩ => ⟨g, h1, h5.holds h4, h6⟩
theorem eqGraph_fair {ss : List Sc} (hF : Fair ss) {w1 w2 : World} {o1 o2 : Option Addr} {c1 c2 : Nat} {w : World} (h1 : HoldsScopes w1 o1 ss) (h2 : HoldsScopes w2 o2 ss) (hb1 : Below w1.heap.size w1 w) (hb2 : Below w2.heap.size w2 w) :
    Calls Tryd.prog 20 #[.agg #[.slice o1 ss.length c1], .agg #[.slice o2 ss.length c2]] w fun e w' => e = .returned (.bool true) ∧ Below w.heap.size w w' :=
  eqGraph_same ss o1 o2 c1 c2 w (by have := hF.count; omega) (fun s hs => by have := hF.items s hs; omega) (h1.below hb1 (Nat.le_refl _)) (h2.below hb2 (Nat.le_refl _))
theorem TreeErrs.at {w w' : World} (h : TreeErrs w) (hb : Below w.heap.size w w') : TreeErrs w' := h.below hb h.size
theorem belowS {w w1 w2 : World} (h : Below w.heap.size w w1) (k : Below w1.heap.size w1 w2) : Below w.heap.size w w2 := h.trans (k.mono h.size)
end Go.Proofs.YtadpgoiiopfnnaaDoor
namespace Go.Proofs.YtadpgoiiopfnnaaDoor
open Go Go.RowKit
theorem numList_of_owns {w : World} {B : Nat} {v : Value} {l : List Nat} (h : w.ownsRow B 3 1 v l.length (numVals l)) : ∃ oa cap, v = .slice oa (natInts l).length cap ∧ HoldsInts w oa (natInts l) ∧ OwnInts w B oa (natInts l).length := by
  have hl : (natInts l).length = l.length := by simp [natInts]
  obtain ⟨oa, cap, rfl, hh⟩ := holdsInts_of_owns h
  rw [hl] at h ⊢
  exact ⟨oa, cap, rfl, hh, ownInts_of_owns h⟩
/-- What both answer: the list and the truth, by the same rule. -/
def listVal (ok : Prop) (l : List Nat) (xs : List Int) (b : Bool) : Prop := (¬ ok ∧ xs = [] ∧ b = false) ∨ (ok ∧ xs = natInts l ∧ b = true)
theorem ListGot2.val {ok : Prop} {l : List Nat} {w w' : World} {e : Ending} (h : ListGot2 ok l w e w') : ∃ oa cap xs b, e = .returned (.tuple #[.slice oa xs.length cap, .bool b]) ∧ listVal ok l xs b ∧ HoldsInts w' oa xs ∧ Below w.heap.size w w' := by
  rcases h with ⟨h1, g, rfl, hb⟩ | ⟨h1, v, rfl, hr, hb⟩
  · exact ⟨_, 0, [], false, rfl, .inl ⟨h1, rfl, rfl⟩, .inl rfl, hb⟩
  · obtain ⟨oa, cap, rfl, hh, _⟩ := numList_of_owns hr
    exact ⟨oa, cap, _, true, rfl, .inr ⟨h1, rfl, rfl⟩, hh, hb⟩
theorem ListGot.val {ok : Prop} {l : List Nat} {w w' : World} {e : Ending} (h : ListGot ok l w e w') : ∃ oa cap xs b, e = .returned (.tuple #[.slice oa xs.length cap, .bool b]) ∧ listVal ok l xs b ∧ HoldsInts w' oa xs ∧ OwnInts w' w.heap.size oa xs.length ∧ Below w.heap.size w w' := by
  rcases h with ⟨h1, rfl, hb⟩ | ⟨h1, v, rfl, hr, hb⟩
  · exact ⟨none, 0, [], false, rfl, .inl ⟨h1, rfl, rfl⟩, .inl rfl, .inl rfl, hb⟩
  · obtain ⟨oa, cap, rfl, hh, ho⟩ := numList_of_owns hr
    exact ⟨oa, cap, _, true, rfl, .inr ⟨h1, rfl, rfl⟩, hh, ho, hb⟩
theorem listVal.same {ok : Prop} {l : List Nat} {xs ys : List Int} {b c : Bool} (h : listVal ok l xs b) (k : listVal ok l ys c) : xs = ys ∧ b = c := by
  rcases h with ⟨h1, h2, h3⟩ | ⟨h1, h2, h3⟩ <;> rcases k with ⟨k1, k2, k3⟩ | ⟨k1, k2, k3⟩
  · exact ⟨by rw [h2, k2], by rw [h3, k3]⟩
  · exact absurd k1 h1
  · exact absurd h1 k1
  · exact ⟨by rw [h2, k2], by rw [h3, k3]⟩
theorem listVal.small {ok : Prop} {l : List Nat} {xs : List Int} {b : Bool} (h : listVal ok l xs b) (hl : ok → l.length ≤ 6) : xs.length ≤ 6 := by
  rcases h with ⟨_, h2, _⟩ | ⟨h1, h2, _⟩
  · rw [h2]; simp
  · rw [h2]
    have := hl h1
    simp [natInts]
    omega
/-- Lists lie where no block of a graph of one's own lies. -/
theorem HoldsInts.mid {b0 b1 : Nat} {w w1 w' : World} {oa : Option Addr} {xs : List Int} (h : HoldsInts w oa xs) (hw : w.heap.size ≤ b0) (hb : Below w.heap.size w w1) (hm : Mid b0 b1 w1 w') : HoldsInts w' oa xs := by
  have h1 := h.below hb
  rcases h with h | ⟨b, off, q1, q2, q3⟩
  · exact .inl h
  · rcases h1 with h1 | ⟨b', off', p1, p2, p3⟩
    · exact .inl h1
    · rw [q1] at p1
      cases p1
      refine .inr ⟨b, off, q1, Nat.lt_of_lt_of_le p2 hm.size, fun i x hx => ?_⟩
      exact (World.cell?_of_block (hm.rest b p2 (.inl (by omega)))).trans (p3 i x hx)
theorem OwnInts.mid {b0 b1 B n : Nat} {w w' : World} {oa : Option Addr} (h : OwnInts w B oa n) (hB : b1 ≤ B) (hm : Mid b0 b1 w w') : OwnInts w' B oa n := by
  rcases h with h | ⟨g, vs, q1, q2, q3, q4⟩
  · exact .inl h
  · exact .inr ⟨g, vs, q1, q2, hm.row q3 (.inr (by omega)), q4⟩
theorem HoldsInts.mid_own {b0 b1 B : Nat} {w w' : World} {oa : Option Addr} {xs : List Int} (h : HoldsInts w oa xs) (ho : OwnInts w B oa xs.length) (hB : b1 ≤ B) (hm : Mid b0 b1 w w') : HoldsInts w' oa xs := by
  rcases h with h | ⟨b, off, q1, q2, q3⟩
  · exact .inl h
  · rcases ho with h0 | ⟨g, vs, p1, p2, p3, p4⟩
    · exact .inl (List.eq_nil_of_length_eq_zero h0)
    · rw [p1] at q1
      cases q1
      refine .inr ⟨_, 0, p1, Nat.lt_of_lt_of_le q2 hm.size, fun i x hx => ?_⟩
      exact (World.cell?_of_block (hm.rest _ q2 (.inr (Nat.le_trans hB p2)))).trans (q3 i x hx)
theorem belowN {N : Nat} {a b c : World} (h : Below N a b) (k : Below b.heap.size b c) (hN : N ≤ a.heap.size) : Below N a c := h.trans (k.mono (Nat.le_trans hN h.size))
end Go.Proofs.YtadpgoiiopfnnaaDoor
namespace Go.Proofs.YtadpgoiiopfnnaaDoor
open Go Go.RowKit
/-- What both answer: the list and the truth, by the same rule. -/
def plVal (ok : Prop) (l : List (Int × Int)) (xs : List (Int × Int)) (b : Bool) : Prop := (¬ ok ∧ xs = [] ∧ b = false) ∨ (ok ∧ xs = l ∧ b = true)
theorem PlGot2.val {ok : Prop} {l : List (Int × Int)} {w w' : World} {e : Ending} (h : PlGot2 ok l w e w') : ∃ oa cap xs b, e = .returned (.tuple #[.slice oa xs.length cap, .bool b]) ∧ plVal ok l xs b ∧ ArgPlaces w' oa xs ∧ Below w.heap.size w w' := by
  rcases h with ⟨h1, g, rfl, hb⟩ | ⟨h1, v, rfl, hr, hb⟩
  · exact ⟨_, 0, [], false, rfl, .inl ⟨h1, rfl, rfl⟩, .inl rfl, hb⟩
  · obtain ⟨oa, cap, rfl, hh⟩ := argPlaces_of_owns hr
    exact ⟨oa, cap, _, true, rfl, .inr ⟨h1, rfl, rfl⟩, hh, hb⟩
theorem PlGot.val {ok : Prop} {l : List (Int × Int)} {w w' : World} {e : Ending} (h : PlGot ok l w e w') : ∃ oa cap xs b, e = .returned (.tuple #[.slice oa xs.length cap, .bool b]) ∧ plVal ok l xs b ∧ ArgPlaces w' oa xs ∧ OwnPl w' w.heap.size oa xs.length ∧ Below w.heap.size w w' := by
  rcases h with ⟨h1, rfl, hb⟩ | ⟨h1, v, rfl, hr, hb⟩
  · exact ⟨none, 0, [], false, rfl, .inl ⟨h1, rfl, rfl⟩, .inl rfl, .inl rfl, hb⟩
  · obtain ⟨oa, cap, rfl, hh⟩ := argPlaces_of_owns hr
    exact ⟨oa, cap, _, true, rfl, .inr ⟨h1, rfl, rfl⟩, hh, ownPl_of_owns hr, hb⟩
theorem plVal.same {ok : Prop} {l : List (Int × Int)} {xs ys : List (Int × Int)} {b c : Bool} (h : plVal ok l xs b) (k : plVal ok l ys c) : xs = ys ∧ b = c := by
  rcases h with ⟨h1, h2, h3⟩ | ⟨h1, h2, h3⟩ <;> rcases k with ⟨k1, k2, k3⟩ | ⟨k1, k2, k3⟩
  · exact ⟨by rw [h2, k2], by rw [h3, k3]⟩
  · exact absurd k1 h1
  · exact absurd h1 k1
  · exact ⟨by rw [h2, k2], by rw [h3, k3]⟩
theorem plVal.small {ok : Prop} {l : List (Int × Int)} {xs : List (Int × Int)} {b : Bool} (h : plVal ok l xs b) (hl : ok → l.length ≤ 1000) : xs.length ≤ 1000 := by
  rcases h with ⟨_, h2, _⟩ | ⟨h1, h2, _⟩
  · rw [h2]; simp
  · rw [h2]; exact hl h1
theorem ArgPlaces.mid_own {b0 b1 B : Nat} {w w' : World} {oa : Option Addr} {xs : List (Int × Int)} (h : ArgPlaces w oa xs) (ho : OwnPl w B oa xs.length) (hB : b1 ≤ B) (hm : Mid b0 b1 w w') : ArgPlaces w' oa xs := by
  rcases h with h | ⟨b, off, q1, q2, q3⟩
  · exact .inl h
  · rcases ho with h0 | ⟨g, vs, p1, p2, p3, p4⟩
    · exact .inl (List.eq_nil_of_length_eq_zero h0)
    · rw [p1] at q1
      cases q1
      refine .inr ⟨_, 0, p1, Nat.lt_of_lt_of_le q2 hm.size, fun i x hx => ?_⟩
      exact ⟨(World.cell?_of_block (hm.rest _ q2 (.inr (Nat.le_trans hB p2)))).trans (q3 i x hx).1, (World.cell?_of_block (hm.rest _ q2 (.inr (Nat.le_trans hB p2)))).trans (q3 i x hx).2⟩
theorem OwnPl.mid {b0 b1 B n : Nat} {w w' : World} {oa : Option Addr} (h : OwnPl w B oa n) (hB : b1 ≤ B) (hm : Mid b0 b1 w w') : OwnPl w' B oa n := by
  rcases h with h | ⟨g, vs, q1, q2, q3, q4⟩
  · exact .inl h
  · exact .inr ⟨g, vs, q1, q2, hm.row q3 (.inr (by omega)), q4⟩
end Go.Proofs.YtadpgoiiopfnnaaDoor
