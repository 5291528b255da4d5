/-
  The walks of impl's namesFrom, VisibleNames, FreeNames and ClashesOf. Conditions: the argument's memory holds the graph; the package-level errors hold errors.
-/
import Derived.Test.YtjogfagjcpcihaaDoorJD
import Derived.Test.YtjogfagjcpcihaaDoorWImplLook
import Derived.Lib.OthersKept
import Derived.Laws.RangeAny
namespace Go.Proofs.YtjogfagjcpcihaaDoor
open Go Go.RowKit Go.Maps
attribute [local go_sem ↓] field_places
theorem pickI_next {W : World} {I k : Nat} (h : W.heap[I]? = some (.stringIter lettersB k)) (hk : k < 26) (ty : TypeId) :
    (Instr.next (.pointer (some ⟨I, 0, none⟩)) true ty).run Tryd.prog W = .ok (.tuple #[.bool true, .int .i64 (k : Int), .int .i32 ((97 + k : Nat) : Int)]) (W.iterAt I lettersB (k + 1)) := by
  obtain ⟨h1, h2⟩ := letters_at hk
  rw [Lib.run_next_ascii_at W I lettersB k ty h h1 (by omega), h2]
theorem pickI_end {W : World} {I k : Nat} (h : W.heap[I]? = some (.stringIter lettersB k)) (hk : ¬ k < 26) (ty : TypeId) :
    (Instr.next (.pointer (some ⟨I, 0, none⟩)) true ty).run Tryd.prog W = .ok (.tuple #[.bool false]) W :=
  Lib.run_next_end_at W I lettersB k ty h hk
/-- What holds at the head of a round. -/
structure PickAt (w wr : World) (B L M T M1 M2 : Nat) (v : Value) (ds : List Nd) (ss : List Sc) (k : Nat) : Prop where
  left : Left w wr B L M T M1 M2 v ds ss
  iter : wr.heap[w.heap.size]? = some (.stringIter lettersB k)
theorem PickAt.pos {w wr : World} {B L M T M1 M2 k : Nat} {v : Value} {ds : List Nd} {ss : List Sc} (h : PickAt w wr B L M T M1 M2 v ds ss k) : wr.iterPos w.heap.size = k := by
  unfold World.iterPos; rw [h.iter]
theorem PickAt.next {w wr : World} {B L M T M1 M2 k : Nat} {v : Value} {ds : List Nd} {ss : List Sc} (hL : LookW w B L M T M1 M2 v ds ss) (h : PickAt w wr B L M T M1 M2 v ds ss k) (j : Nat) : PickAt w (wr.iterAt w.heap.size lettersB j) B L M T M1 M2 v ds ss j :=
  ⟨Left.far hL h.left (Lib.below_iterAt (Below.refl _ _) (Nat.le_refl _) _ _), Lib.iterAt_heap wr _ _ _ _ h.iter⟩
theorem PickAt.call {w wr w' : World} {B L M T M1 M2 k : Nat} {v : Value} {ds : List Nd} {ss : List Sc} (hL : LookW w B L M T M1 M2 v ds ss) (h : PickAt w wr B L M T M1 M2 v ds ss k) (hl : Left wr w' B L M T M1 M2 v ds ss) : PickAt w w' B L M T M1 M2 v ds ss k :=
  ⟨h.left.trans hl, (hl.turns.rest _ (Array.getElem?_eq_some_iff.1 h.iter).1 (by have := hL.memo.lt; omega) (by have := hL.memo.lt; omega)).trans h.iter⟩
end Go.Proofs.YtjogfagjcpcihaaDoor
