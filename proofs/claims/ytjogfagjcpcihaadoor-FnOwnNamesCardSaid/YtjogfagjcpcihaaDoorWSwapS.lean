/-
  The walks of the given l8RawSwapNames and SwapNames. Condition: the argument's memory holds the graph.
-/
import Derived.Test.YtjogfagjcpcihaaDoorWSwapI
import Derived.Test.YtjogfagjcpcihaaDoorJC
namespace Go.Proofs.YtjogfagjcpcihaaDoor
open Go Go.RowKit
/-- A graph that may share memory, and a truth. -/
def RawGr (ok : Prop) (l : List Sc) (w : World) (e : Ending) (w' : World) : Prop :=
  (¬ ok ∧ e = .returned (.tuple #[.agg #[.slice none 0 0], .bool false]) ∧ Below w.heap.size w w') ∨
  (ok ∧ ∃ ov cv, e = .returned (.tuple #[.agg #[.slice ov l.length cv], .bool true]) ∧ HoldsScopes w' ov l ∧ Below w.heap.size w w')
theorem uptoF_skip {ss : List Sc} {f : NameF} {s k : Nat} {c : Sc} {x : It} (hc : ss[s]? = some c) (hx : c.items[k]? = some x) (hf : f s k x.name = x.name) : renP ss (uptoF f s (k + 1)) = renP ss (uptoF f s k) := by
  refine renP_congr fun i j d y hd hy => ?_
  unfold uptoF
  by_cases h1 : i = s ∧ j = k
  · obtain ⟨rfl, rfl⟩ := h1
    rw [hc] at hd
    obtain rfl := Option.some.inj hd
    rw [hx] at hy
    obtain rfl := Option.some.inj hy
    rw [if_pos (Or.inr ⟨rfl, by omega⟩), if_neg (by omega), hf]
  · by_cases h2 : i < s ∨ (i = s ∧ j < k)
    · rw [if_pos h2, if_pos (show i < s ∨ (i = s ∧ j < k + 1) by omega)]
    · rw [if_neg h2, if_neg (show ¬ (i < s ∨ (i = s ∧ j < k + 1)) by omega)]
/-- Where an item lies. -/
theorem GrIn.itemAt {w : World} {B g gs cs : Nat} {us : List Sc} {hs : List Value} (h : GrIn w B g gs cs us hs) {i j gi ci : Nat} {s : Sc} {x : It} (hs' : us[i]? = some s) (hx : s.items[j]? = some x) (hu : hs[i]? = some (.slice (some ⟨gi, 0, none⟩) s.items.length ci)) :
    w.cell? ⟨gi, j * 3, none⟩ = some (.int .i64 x.kind) ∧ w.cell? ⟨gi, j * 3 + 1, none⟩ = some (.string x.name) ∧ w.cell? ⟨gi, j * 3 + 2, none⟩ = some (.int .i64 x.scope) := by
  have h4 := h.own.items i s _ hs' hu
  have hjl := (List.getElem?_eq_some_iff.1 hx).1
  have hcc := fun g hg => h4.cells (g := g) hg
  have hd : ∀ n v, (itemCells [x])[n]? = some v → (itemCells s.items)[j * 3 + n]? = some v := fun n v hv => by
    have h10 := itemCells_drop s.items j
    have h11 : (itemCells s.items)[j * 3 + n]? = (itemCells (s.items.drop j))[n]? := by rw [h10, List.getElem?_drop]
    rw [h11, List.drop_eq_getElem_cons hjl, show s.items[j] :: s.items.drop (j + 1) = [s.items[j]] ++ s.items.drop (j + 1) from rfl, itemCells_append]
    rw [List.getElem?_eq_getElem hjl] at hx
    rw [Option.some.inj hx, List.getElem?_append_left (List.getElem?_eq_some_iff.1 hv).1]
    exact hv
  refine ⟨?_, ?_, ?_⟩
  · have h12 := hcc gi rfl _ _ (hd 0 _ rfl)
    rw [Addr.add_lit, Nat.zero_add] at h12
    exact h12
  · have h12 := hcc gi rfl _ _ (hd 1 _ rfl)
    rw [Addr.add_lit, Nat.zero_add] at h12
    exact h12
  · have h12 := hcc gi rfl _ _ (hd 2 _ rfl)
    rw [Addr.add_lit, Nat.zero_add] at h12
    exact h12
theorem OwnGr.holdsAtR {w : World} {B c : Nat} {o : Option Addr} {l : List Sc} {hs : List Value} (h : OwnGr w B (.slice o l.length c) l hs) : HoldsScopes w o l := by
  obtain ⟨ov, cv, he, hh⟩ := h.holds
  simp only [Value.slice.injEq] at he
  rw [he.1]
  exact hh
theorem names_ne {a b : ByteArray} (h : a ≠ b) : (a.toList == b.toList) = false := by
  rw [Bool.eq_false_iff]
  intro e
  rw [beq_iff_eq, ByteArray.toList_eq, ByteArray.toList_eq] at e
  exact h (ByteArray.ext (Array.ext' e))
end Go.Proofs.YtjogfagjcpcihaaDoor
