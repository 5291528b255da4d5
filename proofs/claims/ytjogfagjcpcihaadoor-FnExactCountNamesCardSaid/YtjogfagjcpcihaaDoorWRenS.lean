/-
  The walks of the given l8Named, l8RawRenameAt, RenameAt, RenameChanges and CanRename. Condition: the argument's memory holds the graph.
-/
import Derived.Test.YtjogfagjcpcihaaDoorWSwapS
import Derived.Test.YtjogfagjcpcihaaDoorWUsrS
import Derived.Test.YtjogfagjcpcihaaDoorWChgS
import Derived.Test.YtjogfagjcpcihaaDoorJE
namespace Go.Proofs.YtjogfagjcpcihaaDoor
open Go Go.RowKit
def renOk (ss : List Sc) (a b : Int) (nm : ByteArray) : Prop := declOk ss a b ∧ nameB nm = true
def renG (ss : List Sc) (a b : Int) (nm : ByteArray) : List Sc := renP ss (nmIn (usersP ss (a, b) ++ [(a, b)]) nm)
theorem name_placed {ss : List Sc} (hv : Valid ss) {i j : Nat} {x : It} (hq : (i, j, x) ∈ placed 0 ss) : nameB x.name = true := by
  have h3 := hv.items
  rw [← placed_flat] at h3
  have h4 := (h3.1 (i, x) (List.mem_map.2 ⟨(i, j, x), hq, rfl⟩)).1
  unfold itemB at h4
  simp only [Bool.and_eq_true] at h4
  exact h4.1.1
theorem renOk.valid {ss : List Sc} {a b : Int} {nm : ByteArray} (h : renOk ss a b nm) : Valid (renG ss a b nm) := by
  refine Valid.ren h.1.1 fun i j x hq => ?_
  unfold nmIn
  split
  · exact h.2
  · exact name_placed h.1.1 hq
theorem nameB_small {nm : ByteArray} (h : nameB nm = true) : nm.size ≤ 2 ^ 63 - 1 := by
  have h1 : nm.data.toList.length = nm.size := by rw [Array.length_toList]; rfl
  unfold nameB at h
  rcases hd : nm.data.toList with _ | ⟨b, _ | ⟨c, r⟩⟩
  · rw [hd] at h; cases h
  · rw [hd] at h1; simp only [List.length_cons, List.length_nil] at h1; omega
  · rw [hd] at h; cases h
theorem Fair.ren {ss : List Sc} (hF : Fair ss) {f : NameF} (hf : ∀ i j s x, ss[i]? = some s → s.items[j]? = some x → (f i j x.name).size ≤ 2 ^ 63 - 1) : Fair (renP ss f) where
  count := by rw [renP_length]; exact hF.count
  items := items_ren hF.items f
  fits := hF.fits.ren hf
  nums := hF.nums.ren f
theorem renOk.fair {ss : List Sc} (hF : Fair ss) {a b : Int} {nm : ByteArray} (h : renOk ss a b nm) : Fair (renG ss a b nm) := by
  refine hF.ren fun i j s x hs hx => ?_
  unfold nmIn
  split
  · exact nameB_small h.2
  · exact (hF.fits.2 s (List.mem_of_getElem? hs)).2 x (List.mem_of_getElem? hx)
theorem users_isPlace {ss : List Sc} {d : Int × Int} : ∀ p ∈ usersP ss d, IsPlace ss p := by
  intro p hp
  unfold usersP filtL at hp
  obtain ⟨q, hq, rfl⟩ := List.mem_map.1 hp
  obtain ⟨s, h1, h2⟩ := placed_at (List.mem_filter.1 hq).1
  exact ⟨q.1, q.2.1, s, q.2.2, rfl, h1, h2⟩
theorem declOk.isPlace {ss : List Sc} {a b : Int} (h : declOk ss a b) : IsPlace ss (a, b) := by
  obtain ⟨hv, x, hx, _⟩ := h
  obtain ⟨i, j, rfl, rfl, hq⟩ := item_placed hx
  obtain ⟨s, h1, h2⟩ := placed_at hq
  exact ⟨i, j, s, x, rfl, h1, h2⟩
theorem cell_farR {w : World} {b g : Nat} (h : b ≠ g) (i : Nat) (v : Value) {o : Nat} : (w.setCell ⟨g, i, none⟩ v).cell? ⟨b, o, none⟩ = w.cell? ⟨b, o, none⟩ := World.cell?_of_block (Below.heap_setCell _ _ _ _ h)
theorem append_place_src {W : World} {base k S : Nat} {v : Value} {xs : List Value} (hrow : W.ownsRow base 32 2 v k xs) (x y : Int) (hk : k < 1000000) (hbase : base ≤ W.heap.size) (h0 : W.cell? ⟨S, 0, none⟩ = some (.int .i64 x)) (h1 : W.cell? ⟨S, 1, none⟩ = some (.int .i64 y)) (ty : TypeId) :
    ∃ v' w', (Builtin.append_ #[46, 46] ty #[v, .slice (some ⟨S, 0, none⟩) 1 1]).run Tryd.prog W = .ok v' w' ∧ w'.ownsRow base 32 2 v' (k + 1) (xs ++ [.int .i64 x, .int .i64 y]) ∧ W.grownBy w' v.ownBlock := by
  obtain ⟨i0, hi, hz0, hz1, hz2⟩ := info_parts infoPl
  obtain ⟨v', w', hrun, h2, h3, _, h5⟩ := run_append_own_at (P := Tryd.prog) W base 46 ty 32 i0 (.agg #[.int .i64 0, .int .i64 0]) 2 16 Tryd.underlying46 hi hz0 hz1 hz2 rfl (by decide) v k xs hrow ⟨S, 0, none⟩ 1 1 [.int .i64 x, .int .i64 y] rfl
    (by
      intro j u hj
      match j, hj with
      | 0, hj => simp at hj; subst hj; simpa [Addr.add] using h0
      | 1, hj => simp at hj; subst hj; simpa [Addr.add] using h1)
    (by intro u hu; simp only [List.mem_cons, List.mem_nil_iff, or_false] at hu; rcases hu with rfl | rfl <;> rfl) (by unfold maxLen; omega) (by omega) hbase
  exact ⟨v', w', hrun, h2, h3⟩
end Go.Proofs.YtjogfagjcpcihaaDoor
