/-
  The walk of impl's ChainOf: a scope and all around it, in a list of its own. Conditions: the argument's memory holds the graph; the package-level errors hold errors.
-/
import Derived.Test.YtadpgoiiopfnnaaDoorWNode
import Derived.Maps.AppendAt
import Derived.RangeFuncBox
namespace Go.Proofs.YtadpgoiiopfnnaaDoor
open Go Go.RowKit Go.Maps
attribute [local go_sem] Oper.semAt_some
theorem infoInt : (Tryd.prog.info? 3).map (fun i => (i.zero, i.size, i.bytes)) = some (some (.int .i64 0), 1, 8) := by kernel_rfl
/-- One number appended, as the operation runs it. -/
theorem append_int {W : World} {base k : Nat} {v : Value} {xs : List Value} (hrow : W.ownsRow base 3 1 v k xs) (x : Int) (hk : k < 1000000) (hbase : base ≤ W.heap.size) (ty : TypeId) :
    ∃ v' w', (Builtin.append_ #[115, 115] ty #[v, .slice (some ⟨W.heap.size, 0, none⟩) 1 1]).run Tryd.prog (W.alloc (.cells #[.int .i64 x] 3)).drew = .ok v' w' ∧ w'.ownsRow base 3 1 v' (k + 1) (xs ++ [.int .i64 x]) ∧ (W.alloc (.cells #[.int .i64 x] 3)).grownBy w' v.ownBlock := by
  obtain ⟨i0, hi, hz0, hz1, hz2⟩ := info_parts infoInt
  obtain ⟨v', w', hrun, h2, h3, _, _⟩ := run_append_own_at (P := Tryd.prog) (W.alloc (.cells #[.int .i64 x] 3)).drew base 115 ty 3 i0 (.int .i64 0) 1 8 Tryd.underlying115 hi hz0 hz1 hz2 rfl (by decide) v k xs (hrow.alloc _).drew ⟨W.heap.size, 0, none⟩ 1 1 [.int .i64 x] rfl (cells_new W _ _)
    (by intro u hu; simp only [List.mem_singleton] at hu; subst hu; rfl) (by unfold maxLen; omega) (by omega) (by show base ≤ (W.alloc _).heap.size; simp; omega)
  exact ⟨v', w', hrun, h2, ⟨h3.os, h3.tape, h3.output, h3.size, h3.block⟩⟩
def numVals (l : List Nat) : List Value := l.map fun (m : Nat) => Value.int .i64 (m : Int)
/-- What a list box holds. -/
def ListBox (W : World) (n0 B : Nat) (t : TypeId) (l : List Nat) : Prop := ∃ v, Boxed W B t v ∧ W.ownsRow n0 3 1 v l.length (numVals l)
/-- What ChainOf answers. -/
def ListGot (ok : Prop) (l : List Nat) (w : World) (e : Ending) (w' : World) : Prop :=
  (¬ ok ∧ e = .returned (.tuple #[.slice none 0 0, .bool false]) ∧ Below w.heap.size w w') ∨
  (ok ∧ ∃ v, e = .returned (.tuple #[v, .bool true]) ∧ w'.ownsRow w.heap.size 3 1 v l.length (numVals l) ∧ Below w.heap.size w w')
theorem ownsRow_lower {w : World} {B B' : Nat} {e : TypeId} {size n : Nat} {v : Value} {xs : List Value} (h : w.ownsRow B e size v n xs) (hB : B' ≤ B) : w.ownsRow B' e size v n xs := by
  obtain ⟨hl, h2 | ⟨g, cap, cur, hv, hg, hr⟩⟩ := h
  · exact ⟨hl, .inl h2⟩
  · exact ⟨hl, .inr ⟨g, cap, cur, hv, Nat.le_trans hB hg, hr⟩⟩
theorem numVals_snoc (l : List Nat) (m : Nat) : numVals (l ++ [m]) = numVals l ++ [.int .i64 (m : Int)] := by simp [numVals]
theorem cellsKept_own {α : Type} (w0 : World) {n : Nat} : OwnFrom n (fun (_ : α) W => CellsKept w0.heap.size w0 W) :=
  fun _ _ _ _ hs hg hr => ⟨Nat.le_trans hs.size hg.size, fun g vs t fr hlt hh => by
    have h1 := hs.block g vs t fr hlt hh
    refine (hg.block g (Array.getElem?_eq_some_iff.1 h1).1 (fun e => ?_)).trans h1
    obtain ⟨_, o, ho, hc⟩ := hr g e.symm
    rw [h1] at ho
    cases ho
    cases hc⟩
theorem row_own {α : Type} (n g : Nat) (t : TypeId) (f : α → List Value) : OwnFrom n (fun (s : α) W => Row W g t (f s)) :=
  fun _ _ _ _ hs hg hr => hs.grown hg (fun e => by
    obtain ⟨_, o, ho, hc⟩ := hr g e.symm
    unfold Row at hs
    rw [hs] at ho
    cases ho
    cases hc)
end Go.Proofs.YtadpgoiiopfnnaaDoor
