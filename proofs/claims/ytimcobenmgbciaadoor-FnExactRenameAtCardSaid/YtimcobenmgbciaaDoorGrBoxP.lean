/-
  What the laws over a place whose result is a graph share: boxes that hold what a call handed back. Plain facts.
-/
import Derived.Test.YtimcobenmgbciaaDoorJB
import Derived.Test.YtimcobenmgbciaaDoorWMarkR
import Derived.Deep.RegionHeld3
namespace Go.Proofs.YtimcobenmgbciaaDoor
open Go Go.RowKit
theorem grow_cell {W W' : World} {p : Addr} {v : Value} (hb : Below W.heap.size W W') (h : W.cell? p = some v) : W'.cell? p = some v := (hb.cell (World.block_lt_of_cell? _ _ h)).trans h
theorem below_al (W : World) (o : Obj) : Below W.heap.size W (W.alloc o) := (Below.refl _ _).alloc (Nat.le_refl _) o
theorem drew_size (W : World) : W.drew.heap.size = W.heap.size := rfl
theorem held_of {w w1 W : World} {p0 p1 p2 : Addr} {v0 v1 v2 : Value} (c0 : w1.cell? p0 = some v0) (c1 : w1.cell? p1 = some v1) (c2 : w1.cell? p2 = some v2) (B1 : Below w.heap.size w w1) (hb : Below w1.heap.size w1 W) :
    W.cell? p0 = some v0 ∧ W.cell? p1 = some v1 ∧ W.cell? p2 = some v2 ∧ Below w.heap.size w W ∧ Below w1.heap.size w1 W :=
  ⟨grow_cell hb c0, grow_cell hb c1, grow_cell hb c2, B1.trans (hb.mono B1.size), hb⟩
/-- A graph and a truth that a call handed back, the graph's header in a box. -/
def GrBox (pok : Prop) (l : List Sc) (B : Nat) (w : World) (g : Nat) (ok : Bool) : Prop := ∃ o c xs hs, grVal pok l xs ok ∧ B ≤ g ∧ Row w g 25 [.slice o xs.length c] ∧ HoldsScopes w o xs ∧ OwnGr w B (.slice o xs.length c) xs hs
theorem OwnGr.holds_at {w : World} {B : Nat} {o : Option Addr} {n c : Nat} {xs : List Sc} {hs : List Value} (h : OwnGr w B (.slice o n c) xs hs) : HoldsScopes w o xs := by
  obtain ⟨_, _, he, hh⟩ := h.holds
  cases he
  exact hh
theorem OwnGr.otherN {w : World} {B T : Nat} {v : Value} {us : List Sc} {hs vs : List Value} (h : OwnGr w B v us hs) (hT : Row w T 25 vs) (i : Nat) (u : Value) : OwnGr (w.setCell ⟨T, i, none⟩ u) B v us hs :=
  ⟨h.len, ownsRow_otherN h.row hT (by decide) i u, fun k t z h1 h2 => ownsRow_otherN (h.items k t z h1 h2) hT (by decide) i u, h.apart⟩
theorem GrBox.new {l xs : List Sc} {pok : Prop} {B c : Nat} {w : World} {ok : Bool} {o : Option Addr} {hs : List Value} (hv : grVal pok l xs ok) (hO : OwnGr w B (.slice o xs.length c) xs hs) (hB : B ≤ w.heap.size) :
    GrBox pok l B (w.alloc (.cells #[.slice o xs.length c] 25)) w.heap.size ok :=
  have h := hO.below (below_al w (.cells #[.slice o xs.length c] 25))
  ⟨o, c, xs, hs, hv, hB, Row.new w [.slice o xs.length c] 25, h.holds_at, h⟩
theorem GrBox.set {l xs : List Sc} {pok : Prop} {B c g : Nat} {w : World} {ok : Bool} {o : Option Addr} {hs : List Value} {x : Value} (hv : grVal pok l xs ok) (hO : OwnGr w B (.slice o xs.length c) xs hs) (hz : Row w g 25 [x]) (hB : B ≤ g) :
    GrBox pok l B (w.setCell ⟨g, 0, none⟩ (.slice o xs.length c)) g ok :=
  have h := hO.otherN hz 0 (.slice o xs.length c)
  ⟨o, c, xs, hs, hv, hB, hz.set 0 _, h.holds_at, h⟩
end Go.Proofs.YtimcobenmgbciaaDoor
