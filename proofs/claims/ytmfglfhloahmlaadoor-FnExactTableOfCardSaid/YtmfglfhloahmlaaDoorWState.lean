/-
  The walks of impl's (*resolution).state, ResolveItem and StateOf. Conditions: the argument's memory holds the graph; the package-level errors hold errors.
-/
import Derived.Test.YtmfglfhloahmlaaDoorWRes
import Derived.Test.YtmfglfhloahmlaaDoorWImpTarget
namespace Go.Proofs.YtmfglfhloahmlaaDoor
open Go Go.RowKit Go.Maps
attribute [local go_sem ↓] field_kind field_name field_scope field_places
/-- What the meanings answer at an item's place. -/
theorem mean_at {w : World} {B MR : Nat} {ss : List Sc} {l : List Ent} (hv : Valid ss) (h : MeanW w B MR ss l) (hf : l.map Prod.fst = placed 0 ss) {i j : Nat} {x : It} (hq : (i, j, x) ∈ placed 0 ss) :
    ∃ u, (Instr.lookup 113 (.map (some MR)) (.agg #[.int .i64 (i : Int), .int .i64 (j : Int)]) true).run Tryd.prog w = .ok (.tuple #[u, .bool true]) w ∧
      (Instr.lookup 113 (.map (some MR)) (.agg #[.int .i64 (i : Int), .int .i64 (j : Int)]) false).run Tryd.prog w = .ok u w ∧ w.ownsRow B 54 2 u (meanIt ss (i, j, x)).length (placeCells (meanIt ss (i, j, x))) := by
  have hlt := hv.small.lt hq
  have hx := placed_item hq
  dsimp only at hx hlt
  obtain ⟨u, h1, h2, h3⟩ := mean_look hv h hf (wf_small hlt.1) (wf_small hlt.2)
  rw [hx] at h1
  rcases h3 with ⟨h4, _⟩ | ⟨i', j', y, hi, hj, hy, _, h5⟩
  · rw [hx] at h4; cases h4
  · obtain rfl : i = i' := by omega
    obtain rfl : j = j' := by omega
    rw [hx] at hy
    cases hy
    exact ⟨u, h1, h2, h5⟩
/-- There is an item; what it means. -/
def itemHas (ss : List Sc) (a b : Int) : Prop := Valid ss ∧ (itemAtP ss a b).isSome = true
def meanAt (ss : List Sc) (a b : Int) : List (Int × Int) := match itemAtP ss a b with
  | none => []
  | some x => meanIt ss (a.toNat, b.toNat, x)
theorem meanAt_of {ss : List Sc} {i j : Nat} {x : It} (h : (i, j, x) ∈ placed 0 ss) : meanAt ss (i : Int) (j : Int) = meanIt ss (i, j, x) := by
  have := placed_item h
  dsimp only at this
  unfold meanAt
  rw [this]
  rfl
theorem itemHas_of {ss : List Sc} (hv : Valid ss) {i j : Nat} {x : It} (h : (i, j, x) ∈ placed 0 ss) : itemHas ss (i : Int) (j : Int) := by
  have := placed_item h
  dsimp only at this
  exact ⟨hv, by rw [this]; rfl⟩
/-- What StateOf answers. -/
def StVal (ss : List Sc) (a b z : Int) : Prop := (Valid ss ∧ ∃ i j x, a = (i : Nat) ∧ b = (j : Nat) ∧ (i, j, x) ∈ placed 0 ss ∧ z = stateIt ss (i, j, x)) ∨ (¬ itemHas ss a b ∧ z = 0)
theorem StVal.same {ss : List Sc} {a b z z' : Int} (h : StVal ss a b z) (k : StVal ss a b z') : z = z' := by
  rcases h with ⟨hv, i, j, x, rfl, rfl, hx, rfl⟩ | ⟨hn, rfl⟩
  · rcases k with ⟨_, i', j', y, hi, hj, hy, rfl⟩ | ⟨kn, _⟩
    · obtain rfl : i = i' := by omega
      obtain rfl : j = j' := by omega
      have h1 := placed_item hx
      have h2 := placed_item hy
      dsimp only at h1 h2
      rw [h1] at h2
      cases h2
      rfl
    · exact absurd (itemHas_of hv hx) kn
  · rcases k with ⟨kv, i', j', y, rfl, rfl, hy, _⟩ | ⟨_, rfl⟩
    · exact absurd (itemHas_of kv hy) hn
    · rfl
def StGot (ss : List Sc) (a b : Int) (w : World) (e : Ending) (w' : World) : Prop := ∃ z, e = .returned (.int .i64 z) ∧ StVal ss a b z ∧ Below w.heap.size w w'
end Go.Proofs.YtmfglfhloahmlaaDoor
