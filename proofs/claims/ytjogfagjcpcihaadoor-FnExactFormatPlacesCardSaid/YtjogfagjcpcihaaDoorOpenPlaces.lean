/-
  A list of places that comes in as an argument, opened to its cells; it is nil or its cells hold numbers of 64 bits. The first lemma opens a slice of structs of any number of one-cell fields. Plain facts.
-/
import Derived.Test.YtjogfagjcpcihaaDoorLawPlaces
import Derived.Test.YtjogfagjcpcihaaDoorBase
import Derived.Test.YtjogfagjcpcihaaDoorRows
import Derived.Deep.Slices
import Derived.Deep.Fields
import Derived.ChangeSame
import Derived.ProofKit
import Derived.OpenShut
namespace Go.Proofs.YtjogfagjcpcihaaDoor
open Go Go.RowKit Go.ChangeShapes Go.WideShapes Go.Deep
/-- A place among the laws' own. -/
theorem cellsLP : Tryd.prog.cellsOf 126 = 2 := by kernel_rfl
theorem open_places {H : Type} {enc : TypeId × Value → H} {w : World} {spare : Nat → Bool} {oa : Option Addr} {len cap : Nat} {d : DataW H} {p : List MemPlace}
    (h : DataW.Trod enc Tryd.prog w 0 spare true 57 (.slice oa len cap) d p) :
    ∃ ps : List (Int × Int), len = ps.length ∧ (∀ q ∈ ps, Sg.I64 q.1 ∧ Sg.I64 q.2) ∧ ps.length ≤ 2 ^ 63 - 1 ∧ ArgPlaces w oa ps := by
  obtain ⟨fuel, hf⟩ := h
  rcases open_slice_fields Tryd.underlying57 Tryd.underlying126 (by kernel_rfl) (cellsLP.trans (by kernel_rfl)) hf with ⟨hcs, _⟩ | ⟨a, len', cap', m, hcs, _, hlc, hcm, hm, hi⟩
  · simp [Value.cells] at hcs
    obtain ⟨rfl, rfl, rfl⟩ := hcs
    exact ⟨[], rfl, by simp, by simp, .inl rfl⟩
  · simp [Value.cells] at hcs
    obtain ⟨rfl, rfl, rfl⟩ := hcs
    have hml : len ≤ m := by rw [hm]; split <;> omega
    have hex : ∀ i : Fin len, ∃ q : Int × Int, (Sg.I64 q.1 ∧ Sg.I64 q.2) ∧ w.cell? (a.add (i.val * 2)) = some (.int .i64 q.1) ∧ w.cell? (a.add (i.val * 2 + 1)) = some (.int .i64 q.2) := by
      intro i
      obtain ⟨ys, n, hj⟩ := hi i.val (by omega)
      obtain ⟨x0, y0, c0, _, t0⟩ := hj 0 _ rfl
      obtain ⟨x1, y1, c1, _, t1⟩ := hj 1 _ rfl
      obtain ⟨z0, e0, _, w0⟩ := DataW.trod_int Tryd.underlying3 t0
      obtain ⟨z1, e1, _, w1⟩ := DataW.trod_int Tryd.underlying3 t1
      simp only [List.cons.injEq, and_true] at e0 e1
      subst e0 e1
      refine ⟨(z0, z1), ⟨I64_of_wf w0, I64_of_wf w1⟩, ?_, ?_⟩
      · exact c0
      · exact c1
    have hch : ∃ f : Fin len → Int × Int, ∀ i, (Sg.I64 (f i).1 ∧ Sg.I64 (f i).2) ∧ w.cell? (a.add (i.val * 2)) = some (.int .i64 (f i).1) ∧ w.cell? (a.add (i.val * 2 + 1)) = some (.int .i64 (f i).2) := ⟨fun i => Classical.choose (hex i), fun i => Classical.choose_spec (hex i)⟩
    obtain ⟨f, hf2⟩ := hch
    refine ⟨List.ofFn f, by simp, ?_, by simp; unfold maxLen at hcm; omega, ?_⟩
    · intro q hq
      obtain ⟨i, rfl⟩ := List.mem_ofFn.1 hq
      exact (hf2 i).1
    · by_cases h0 : len = 0
      · subst h0; left; simp
      · right
        obtain ⟨b, off, spot⟩ := a
        have hspot : spot = none := by simpa [Addr.add] using World.cell?_spot (hf2 ⟨0, by omega⟩).2.1
        subst hspot
        have hlt := World.block_lt_of_cell? _ _ (hf2 ⟨0, by omega⟩).2.1
        refine ⟨b, off, rfl, by simpa [Addr.add] using hlt, fun i q hq => ?_⟩
        have hil : i < len := by have := (List.getElem?_eq_some_iff.1 hq).1; simpa using this
        rw [List.getElem?_ofFn, dif_pos hil] at hq
        simp only [Option.some.injEq] at hq
        subst hq
        obtain ⟨_, k0, k1⟩ := hf2 ⟨i, hil⟩
        rw [Go.WideShapes.add_plain] at k0 k1
        exact ⟨k0, k1⟩
end Go.Proofs.YtjogfagjcpcihaaDoor
