/-
  A graph that comes in as an argument, opened to its cells: scopes with their items, numbers of 64 bits, and names and lists that a machine can hold. Plain facts.
-/
import Derived.Test.YtgehpaojbnpbcaaGreatDoorWEqZ
import Derived.Test.YtgehpaojbnpbcaaGreatDoorBaseZ
import Derived.Lib.SmallJoins
namespace Go.Proofs.YtgehpaojbnpbcaaGreatDoor
open Go Go.RowKit Go.ChangeShapes Go.WideShapes Go.Deep
/-- Numbers of 64 bits, in items and scopes. -/
def I64Items (xs : List It) : Prop := ∀ x ∈ xs, Sg.I64 x.kind ∧ Sg.I64 x.scope
def I64Scopes (ss : List Sc) : Prop := ∀ s ∈ ss, Sg.I64 s.parent ∧ I64Items s.items
section
variable {H : Type} {enc : TypeId × Value → H} {w : World} {spare : Nat → Bool}
theorem cellsLI : Tryz.prog.cellsOf 156 = 3 := by kernel_rfl
theorem cellsLS : Tryz.prog.cellsOf 63 = 2 := by kernel_rfl
theorem cellsLG : Tryz.prog.cellsOf 24 = 1 := by kernel_rfl
theorem open_items {fuel base : Nat} {v : Value} {y : DataW H × List MemPlace} (h : DataW.trod enc Tryz.prog w base spare true fuel 61 [v] = some y) :
    ∃ (oi : Option Addr) (ci : Nat) (xs : List It), v = .slice oi xs.length ci ∧ HoldsItems w oi xs ∧ FitsItems xs ∧ I64Items xs := by
  rcases open_slice_fields Tryz.underlying61 Tryz.underlying156 (by kernel_rfl) (cellsLI.trans (by kernel_rfl)) h with ⟨hcs, _⟩ | ⟨a, len, cap, m, hcs, _, hlc, hcm, hm, hi⟩
  · simp only [List.cons.injEq, and_true] at hcs
    subst hcs
    exact ⟨none, 0, [], rfl, .inl rfl, ⟨by simp, by simp⟩, by intro x hx; simp at hx⟩
  · simp only [List.cons.injEq, and_true] at hcs
    subst hcs
    have hml : len ≤ m := by rw [hm]; split <;> omega
    obtain ⟨xs, hxl, hxs⟩ := choose_list len (fun i (x : It) => (Sg.I64 x.kind ∧ Sg.I64 x.scope) ∧ x.name.size ≤ maxLen ∧ w.cell? (a.add (i * 3)) = some (.int .i64 x.kind) ∧ w.cell? (a.add (i * 3 + 1)) = some (.string x.name) ∧ w.cell? (a.add (i * 3 + 2)) = some (.int .i64 x.scope)) (by
      intro i hil
      obtain ⟨ys, n, hj⟩ := hi i (by omega)
      obtain ⟨x0, y0, c0, _, t0⟩ := hj 0 _ rfl
      obtain ⟨x1, y1, c1, _, t1⟩ := hj 1 _ rfl
      obtain ⟨x2, y2, c2, _, t2⟩ := hj 2 _ rfl
      obtain ⟨z0, e0, _, w0⟩ := DataW.trod_int Tryz.underlying3 t0
      obtain ⟨z1, e1, _, w1⟩ := DataW.trod_string Tryz.underlying9 t1
      obtain ⟨z2, e2, _, w2⟩ := DataW.trod_int Tryz.underlying3 t2
      simp only [List.cons.injEq, and_true] at e0 e1 e2
      subst e0 e1 e2
      exact ⟨⟨z0, z1, z2⟩, ⟨I64_of_wf w0, I64_of_wf w2⟩, w1, c0, c1, c2⟩)
    refine ⟨some a, cap, xs, by rw [hxl], ?_, ⟨by unfold maxLen at hcm; omega, ?_⟩, ?_⟩
    · by_cases h0 : len = 0
      · left; exact List.length_eq_zero_iff.1 (by omega)
      · right
        obtain ⟨x, hx⟩ : ∃ x, xs[0]? = some x := ⟨_, List.getElem?_eq_getElem (by omega)⟩
        obtain ⟨_, _, k0, _, _⟩ := hxs 0 x hx
        obtain ⟨b, off, spot⟩ := a
        have hspot : spot = none := by simpa [Addr.add] using World.cell?_spot k0
        subst hspot
        have hlt := World.block_lt_of_cell? _ _ k0
        refine ⟨b, off, rfl, by simpa [Addr.add] using hlt, fun i q hq => ?_⟩
        obtain ⟨_, _, k0, k1, k2⟩ := hxs i q hq
        rw [Go.WideShapes.add_plain] at k0 k1 k2
        exact ⟨k0, k1, k2⟩
    · intro x hx
      obtain ⟨i, hi⟩ := List.getElem?_of_mem hx
      have := (hxs i x hi).2.1
      unfold maxLen at this; omega
    · intro x hx
      obtain ⟨i, hi⟩ := List.getElem?_of_mem hx
      exact (hxs i x hi).1
theorem open_scopes {fuel base : Nat} {v : Value} {y : DataW H × List MemPlace} (h : DataW.trod enc Tryz.prog w base spare true fuel 22 [v] = some y) :
    ∃ (oa : Option Addr) (cap : Nat) (ss : List Sc), v = .slice oa ss.length cap ∧ HoldsScopes w oa ss ∧ FitsScopes ss ∧ I64Scopes ss := by
  rcases open_slice_fields Tryz.underlying22 Tryz.underlying63 (by kernel_rfl) (cellsLS.trans (by kernel_rfl)) h with ⟨hcs, _⟩ | ⟨a, len, cap, m, hcs, _, hlc, hcm, hm, hi⟩
  · simp only [List.cons.injEq, and_true] at hcs
    subst hcs
    exact ⟨none, 0, [], rfl, .inl rfl, ⟨by simp, by simp⟩, by intro x hx; simp at hx⟩
  · simp only [List.cons.injEq, and_true] at hcs
    subst hcs
    have hml : len ≤ m := by rw [hm]; split <;> omega
    obtain ⟨ss, hxl, hxs⟩ := choose_list len (fun i (s : Sc) => Sg.I64 s.parent ∧ I64Items s.items ∧ FitsItems s.items ∧ ∃ (oi : Option Addr) (ci : Nat), w.cell? (a.add (i * 2)) = some (.int .i64 s.parent) ∧ w.cell? (a.add (i * 2 + 1)) = some (.slice oi s.items.length ci) ∧ HoldsItems w oi s.items) (by
      intro i hil
      obtain ⟨ys, n, hj⟩ := hi i (by omega)
      obtain ⟨x0, y0, c0, _, t0⟩ := hj 0 _ rfl
      obtain ⟨x1, y1, c1, _, t1⟩ := hj 1 _ rfl
      obtain ⟨z0, e0, _, w0⟩ := DataW.trod_int Tryz.underlying3 t0
      obtain ⟨oi, ci, xs, rfl, hh, hf, hi6⟩ := open_items t1
      simp only [List.cons.injEq, and_true] at e0
      subst e0
      exact ⟨⟨z0, xs⟩, I64_of_wf w0, hi6, hf, oi, ci, c0, c1, hh⟩)
    refine ⟨some a, cap, ss, by rw [hxl], ?_, ⟨by unfold maxLen at hcm; omega, ?_⟩, ?_⟩
    · by_cases h0 : len = 0
      · left; exact List.length_eq_zero_iff.1 (by omega)
      · right
        obtain ⟨x, hx⟩ : ∃ x, ss[0]? = some x := ⟨_, List.getElem?_eq_getElem (by omega)⟩
        obtain ⟨_, _, _, _, _, k0, _⟩ := hxs 0 x hx
        obtain ⟨b, off, spot⟩ := a
        have hspot : spot = none := by simpa [Addr.add] using World.cell?_spot k0
        subst hspot
        have hlt := World.block_lt_of_cell? _ _ k0
        refine ⟨b, off, rfl, by simpa [Addr.add] using hlt, fun i q hq => ?_⟩
        obtain ⟨_, _, _, oi, ci, k0, k1, k2⟩ := hxs i q hq
        rw [Go.WideShapes.add_plain] at k0 k1
        exact ⟨oi, ci, k0, k1, k2⟩
    · intro x hx
      obtain ⟨i, hi⟩ := List.getElem?_of_mem hx
      exact (hxs i x hi).2.2.1
    · intro x hx
      obtain ⟨i, hi⟩ := List.getElem?_of_mem hx
      exact ⟨(hxs i x hi).1, (hxs i x hi).2.1⟩
theorem one_of_size {cs : Array Value} (h : cs.size = 1) : ∃ c, cs = #[c] := by
  obtain ⟨l⟩ := cs
  match l, h with
  | [c], _ => exact ⟨c, rfl⟩
set_option maxRecDepth 100000 in
/-- A graph by value. -/
theorem open_graph {r : Reach} {b0 base : Nat} {v : Value} {d : DataW H} {p : List MemPlace} (hv : Value.okWide Tryz.prog w r b0 24 v) (h : DataW.Trod enc Tryz.prog w base spare true 24 v d p) :
    ∃ (oa : Option Addr) (cap : Nat) (ss : List Sc), v = .agg #[.slice oa ss.length cap] ∧ HoldsScopes w oa ss ∧ FitsScopes ss ∧ I64Scopes ss := by
  obtain ⟨cs, rfl, hsz⟩ := okWide_struct Tryz.underlying24 hv
  obtain ⟨c0, rfl⟩ := one_of_size (hsz.trans cellsLG)
  obtain ⟨fuel, hf⟩ := h
  obtain ⟨xs, n, _, hx, _, hlen, hg⟩ := DataW.trod_struct Tryz.underlying24 hf
  have h0 := hg 0 _ rfl
  have hxl : xs.length = 1 := hlen
  obtain ⟨y0, rfl⟩ : ∃ y, xs = [y] := List.length_eq_one_iff.1 hxl
  have h1 : DataW.trod enc Tryz.prog w base spare true n 22 [c0] = some y0 := h0
  obtain ⟨oa, cap, ss, rfl, hh, hf2, h6⟩ := open_scopes h1
  exact ⟨oa, cap, ss, rfl, hh, hf2, h6⟩
end
end Go.Proofs.YtgehpaojbnpbcaaGreatDoor
