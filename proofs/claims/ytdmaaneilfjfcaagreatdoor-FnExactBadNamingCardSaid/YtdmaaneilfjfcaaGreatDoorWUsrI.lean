/-
  The walks of impl's (*resolution).users and UsersOf. Conditions: the argument's memory holds the graph; the package-level errors hold errors.
-/
import Derived.Test.YtdmaaneilfjfcaaGreatDoorUsr
import Derived.Test.YtdmaaneilfjfcaaGreatDoorJE
import Derived.Test.YtdmaaneilfjfcaaGreatDoorMeanD
namespace Go.Proofs.YtdmaaneilfjfcaaGreatDoor
open Go Go.RowKit Go.Maps
attribute [local go_sem] Oper.semAt_some
theorem below_grown1' {w w' : World} {B : Nat} {row : Option Nat} (h : w.grownBy w' row) (hB : B ≤ w.heap.size) (hr : ∀ r, row = some r → B ≤ r) : Below B w w' := (Below.refl B w).grown h hB hr
/-- The declarations of a list. -/
def declL (l : List (Nat × Nat × It)) : List (Int × Int) := filtL (fun q => decide (q.2.2.kind = 1)) l
theorem declL_snoc (l : List (Nat × Nat × It)) (q : Nat × Nat × It) : declL (l ++ [q]) = declL l ++ if q.2.2.kind = 1 then [plOf q] else [] := by
  unfold declL
  rw [filtL_snoc]
  simp
theorem UsrW.own {B MU n : Nat} {A : List Nat} {dl : List (Int × Int)} {f : Int × Int → List (Int × Int)} {b : Nat} (hb : MU < b) {W W' : World} {row : Option Nat} (h : UsrW W B MU n A dl f) (hg : W.grownBy W' row) (hr : ∀ r, row = some r → b ≤ r ∧ ∃ o : Obj, W.heap[r]? = some o ∧ o.isCells = false) : UsrW W' B MU n A dl f :=
  h.kept (cells_of_grown hg (fun r e => (hr r e).2)) (hg.block MU h.lt (fun e => by have := (hr _ e.symm).1; omega))
theorem UsrW.cells {w w' : World} {B MU n : Nat} {A : List Nat} {dl : List (Int × Int)} {f : Int × Int → List (Int × Int)} (h : UsrW w B MU n A dl f) (hg : w.grownBy w' (some MU)) : CellsKept w.heap.size w w' := by
  obtain ⟨D, g, h1, _⟩ := h
  exact cells_of_grown' hg h1
/-- Rows that a map holds lie where they lay when the map was as it is: apart from what is newer. -/
theorem usr_apart {W W2 : World} {B MU n n2 q : Nat} {dl dl2 : List (Int × Int)} {f f2 : Int × Int → List (Int × Int)} (h : UsrW W B MU n [] dl f) (hs : W2.heap[MU]? = W.heap[MU]?) (h2 : UsrW W2 B MU n2 [] dl2 f2) (hq : W.heap.size ≤ q) : UsrW W2 B MU n2 [q] dl2 f2 := by
  obtain ⟨D, g, h3, h4, h5⟩ := h
  obtain ⟨D2, g2, k3, k4, k5⟩ := h2
  have hD : D2 = D := by
    obtain ⟨es, clock, a1, _, _, a2⟩ := h3
    obtain ⟨es2, clock2, b1, _, _, b2⟩ := k3
    rw [hs, a1] at b1
    cases b1
    rw [a2, b2]
  subst hD
  refine ⟨D2, g2, k3, k4, k5.has, k5.look, k5.rows, k5.apart, fun p hp b hb e => ?_, k5.small⟩
  rw [List.mem_singleton] at hb
  subst hb
  obtain ⟨a, c⟩ := p
  have hw := k5.small _ hp
  have hm : (a, c) ∈ dl := (h5.has a c hw.1 hw.2).1 ((k5.has a c hw.1 hw.2).2 hp)
  have e1 := k5.look a c hp (.map [])
  have e2 := h5.look a c hm (.map [])
  have e3 : g2 (a, c) = g (a, c) := sliceR_eq (sliceR_own (h5.rows _ hm)) (by rw [sliceR_own (k5.rows _ hp), ← e1, e2])
  rw [e3] at e
  have := ((h5.rows _ hm).lt _ e).2
  omega
theorem deferred_own {D b : Nat} {α : Type} (hb : D < b) : OwnFrom b (fun (_ : α) W => W.heap[D]? = some (.deferred (some []))) := fun _ A C row hs hg hr =>
  (hg.block D (Array.getElem?_eq_some_iff.1 hs).1 (fun e => by have := (hr _ e.symm).1; omega)).trans hs
/-- What holds of the map of users in the loops. -/
def UsrRun (w W0 : World) (MU m : Nat) (dl : List (Int × Int)) (f : Int × Int → List (Int × Int)) (W : World) : Prop := Below w.heap.size w W ∧ CellsKept W0.heap.size W0 W ∧ ∃ n, n ≤ m ∧ UsrW W W0.heap.size MU n [] dl f
theorem usrRun_own {w W0 : World} {MU b : Nat} {α : Type} (m : α → Nat) (dl : α → List (Int × Int)) (f : α → Int × Int → List (Int × Int)) (hb : MU < b) (hw : w.heap.size ≤ b) : OwnFrom b (fun (s : α) W => UsrRun w W0 MU (m s) (dl s) (f s) W) := by
  rintro s A C row ⟨h1, h0, n, h2, h3⟩ hg hr
  exact ⟨h1.trans (below_grown1' hg h1.size (fun r e => Nat.le_trans hw (hr r e).1)), h0.trans ((cells_of_grown hg (fun r e => (hr r e).2)).mono h0.size), n, h2, h3.own hb hg hr⟩
/-- What holds while the users of what one item means are entered. -/
structure UsrIn (w W0 W : World) (Bp MU D m b i j : Nat) (dl : List (Int × Int)) (f : Int × Int → List (Int × Int)) (wr : World) : Prop where
  below : Below w.heap.size w wr
  cells : CellsKept W0.heap.size W0 wr
  usr : ∃ n, n ≤ m ∧ UsrW wr W0.heap.size MU n [Bp] dl f
  box : Row wr Bp 32 [.int .i64 (i : Int), .int .i64 (j : Int)]
  keeps : KeepsFrom b W wr
  dfr : wr.heap[D]? = some (.deferred (some []))
theorem UsrIn.drew {w W0 W wr : World} {Bp MU D m b i j : Nat} {dl : List (Int × Int)} {f : Int × Int → List (Int × Int)} (h : UsrIn w W0 W Bp MU D m b i j dl f wr) : UsrIn w W0 W Bp MU D m b i j dl f wr.drew :=
  ⟨h.below.drew, h.cells.trans ((CellsKept.of_below ((Below.refl _ _).drew)).mono h.cells.size), (by obtain ⟨n, h1, h2⟩ := h.usr; exact ⟨n, h1, h2.below ((Below.refl _ _).drew)⟩), h.box.drew, h.keeps.trans ⟨Nat.le_refl _, fun _ _ _ h _ => h⟩, h.dfr⟩
-- END1
end Go.Proofs.YtdmaaneilfjfcaaGreatDoor
