/-
  What it says that memory holds a tree: the record, its row of pointers, a block for each node. Plain facts.
-/
import Derived.Test.YtlhlcdlkilpbhaaDoorValid
import Derived.Test.YtlhlcdlkilpbhaaDoorBase
namespace Go.Proofs.YtlhlcdlkilpbhaaDoor
open Go Go.RowKit
/-- A node: its block, its parent, its items' slice. -/
structure Nd where
  blk : Nat
  par : Option Addr
  items : Value
def Nd.ptr (d : Nd) : Value := .pointer (some ⟨d.blk, 0, none⟩)
def Nd.cells (d : Nd) (k : Nat) : List Value := [.int .i64 (k : Int), .pointer d.par, d.items]
/-- From block B on there lies a tree: its record at T, of two maps, and these nodes. -/
structure Tree (w : World) (B T M1 M2 : Nat) (v : Value) (ds : List Nd) : Prop where
  low : B ≤ T
  box : Row w T 77 [v, .map (some M1), .map (some M2)]
  ptrs : w.ownsRow B 88 1 v ds.length (ds.map Nd.ptr)
  node : ∀ (i : Nat) (d : Nd), ds[i]? = some d → B ≤ d.blk ∧ Row w d.blk 97 (d.cells i)
  inj : (ds.map Nd.blk).Nodup
  pars : ∀ (i : Nat) (d : Nd), ds[i]? = some d → d.par = none ∨ ∃ (j : Nat) (e : Nd), j < i ∧ ds[j]? = some e ∧ d.par = some ⟨e.blk, 0, none⟩
theorem Row.neq {w : World} {g g' : Nat} {t t' : TypeId} {vs vs' : List Value} (h : Row w g t vs) (h' : Row w g' t' vs') (ht : t ≠ t') : g ≠ g' := by
  rintro rfl
  unfold Row at h h'
  rw [h] at h'
  simp at h'
  exact ht h'.2
theorem Row.same {w w' : World} {g : Nat} {t : TypeId} {vs : List Value} (h : Row w g t vs) (hb : w'.heap[g]? = w.heap[g]?) : Row w' g t vs := hb.trans h
theorem Tree.same {w w' : World} {B T M1 M2 : Nat} {v : Value} {ds : List Nd} (h : Tree w B T M1 M2 v ds) (hb : ∀ g, B ≤ g → (∃ vs t, w.heap[g]? = some (.cells vs t (0, 0))) → w'.heap[g]? = w.heap[g]?) : Tree w' B T M1 M2 v ds where
  low := h.low
  box := h.box.same (hb T h.low ⟨_, _, h.box⟩)
  ptrs := by
    obtain ⟨hl, h2 | ⟨g, cap, cur, hv, hB, hh, hr⟩⟩ := h.ptrs
    · exact ⟨hl, .inl h2⟩
    · exact ⟨hl, .inr ⟨g, cap, cur, hv, hB, (hb g hB ⟨_, _, hh⟩).trans hh, hr⟩⟩
  node := fun i d hd => ⟨(h.node i d hd).1, (h.node i d hd).2.same (hb _ (h.node i d hd).1 ⟨_, _, (h.node i d hd).2⟩)⟩
  inj := h.inj
  pars := h.pars
theorem Tree.below {w w' : World} {B C T M1 M2 : Nat} {v : Value} {ds : List Nd} (h : Tree w B T M1 M2 v ds) (hb : Below C w w') (hC : w.heap.size ≤ C) : Tree w' B T M1 M2 v ds :=
  h.same fun g _ ⟨_, _, hg⟩ => hb.block g (Nat.lt_of_lt_of_le (Array.getElem?_eq_some_iff.1 hg).1 hC)
/-- What the row of pointers holds. -/
theorem Tree.slot {w : World} {B T M1 M2 : Nat} {v : Value} {ds : List Nd} (h : Tree w B T M1 M2 v ds) (hd : ds ≠ []) : ∃ g cap, v = .slice (some ⟨g, 0, none⟩) ds.length cap ∧ B ≤ g ∧ g < w.heap.size ∧ ∀ i d, ds[i]? = some d → w.cell? ⟨g, i, none⟩ = some d.ptr := by
  obtain ⟨hl, h2 | ⟨g, cap, cur, hv, hB, hh, hn, _, hs, ht⟩⟩ := h.ptrs
  · exact absurd (List.eq_nil_of_length_eq_zero h2.2) hd
  · refine ⟨g, cap, hv, hB, (Array.getElem?_eq_some_iff.1 hh).1, fun i d hi => ?_⟩
    have hil := (List.getElem?_eq_some_iff.1 hi).1
    have : cur[i]? = some d.ptr := by
      have e : (cur.toList.take (ds.length * 1))[i]? = some d.ptr := by rw [ht]; simp [hi]
      rw [List.getElem?_take_of_lt (by omega)] at e
      simpa using e
    simp [World.cell?, hh, this]
theorem Tree.nil_v {w : World} {B T M1 M2 : Nat} {v : Value} {ds : List Nd} (h : Tree w B T M1 M2 v ds) : ∃ oa cap, v = .slice oa ds.length cap := by
  obtain ⟨hl, h2 | ⟨g, cap, cur, hv, _⟩⟩ := h.ptrs
  · exact ⟨none, 0, by rw [h2.1, h2.2]⟩
  · exact ⟨_, _, hv⟩
theorem Tree.notRow {w : World} {B T M1 M2 : Nat} {v : Value} {ds : List Nd} (h : Tree w B T M1 M2 v ds) {g : Nat} {t : TypeId} {vs : List Value} (hr : Row w g t vs) (ht : t ≠ 88) : some g ≠ v.ownBlock := by
  obtain ⟨hl, h2 | ⟨g', cap, cur, hv, hB, hh, _⟩⟩ := h.ptrs
  · rw [h2.1]; simp [Value.ownBlock]
  · rw [hv]
    intro e
    simp only [Value.ownBlock, Option.some.injEq] at e
    subst e
    unfold Row at hr
    rw [hr] at hh
    simp at hh
    exact ht hh.2
theorem Row.grown {w w' : World} {g : Nat} {t : TypeId} {vs : List Value} {row : Option Nat} (h : Row w g t vs) (hg : w.grownBy w' row) (hne : some g ≠ row) : Row w' g t vs := h.same (hg.block g h.lt hne)
theorem ownsRow_other {w : World} {B : Nat} {e : TypeId} {v : Value} {n T : Nat} {xs : List Value} {t : TypeId} {vs : List Value} (h : w.ownsRow B e 1 v n xs) (hT : Row w T t vs) (ht : t ≠ e) (i : Nat) (u : Value) : (w.setCell ⟨T, i, none⟩ u).ownsRow B e 1 v n xs := by
  obtain ⟨hl, h2 | ⟨g, cap, cur, hv, hB, hh, hr⟩⟩ := h
  · exact ⟨hl, .inl h2⟩
  · refine ⟨hl, .inr ⟨g, cap, cur, hv, hB, ?_, hr⟩⟩
    rw [Below.heap_setCell _ _ _ _ (show g ≠ T from ?_)]
    · exact hh
    · rintro rfl
      unfold Row at hT
      rw [hT] at hh
      simp at hh
      exact ht hh.2
/-- A node more: the record's first cell is the new row. -/
theorem Tree.snoc {w0 w w3 : World} {B T M1 M2 : Nat} {v v' : Value} {ds : List Nd} {nd : Nd} (h0 : Tree w0 B T M1 M2 v ds) (h : Tree w B T M1 M2 v ds) (hn : Row w nd.blk 97 (nd.cells ds.length)) (hB : B ≤ nd.blk) (hz : w0.heap.size ≤ nd.blk)
    (hp : nd.par = none ∨ ∃ (j : Nat) (e : Nd), ds[j]? = some e ∧ nd.par = some ⟨e.blk, 0, none⟩)
    (hg : w.grownBy w3 v.ownBlock) (hown : w3.ownsRow B 88 1 v' (ds.length + 1) (ds.map Nd.ptr ++ [nd.ptr])) : Tree (w3.setCell ⟨T, 0, none⟩ v') B T M1 M2 v' (ds ++ [nd]) where
  low := h.low
  box := (h.box.grown hg (h.notRow h.box (by decide))).set 0 v'
  ptrs := by
    rw [List.length_append, List.map_append]
    exact ownsRow_other hown (h.box.grown hg (h.notRow h.box (by decide))) (by decide) 0 v'
  node := by
    intro i d hd
    rw [List.getElem?_append] at hd
    split at hd
    · have := h.node i d hd
      exact ⟨this.1, (this.2.grown hg (h.notRow this.2 (by decide))).other (fun e => this.2.neq h.box (by decide) e.symm) v'⟩
    · rename_i hi
      obtain ⟨rfl, rfl⟩ : i = ds.length ∧ d = nd := by
        have hl := (List.getElem?_eq_some_iff.1 hd).1
        simp only [List.length_cons, List.length_nil] at hl
        have hi' : i = ds.length := by omega
        subst hi'
        simp at hd
        exact ⟨rfl, hd.symm⟩
      exact ⟨hB, (hn.grown hg (h.notRow hn (by decide))).other (fun e => hn.neq h.box (by decide) e.symm) v'⟩
  inj := by
    rw [List.map_append, List.nodup_append]
    refine ⟨h.inj, by simp, ?_⟩
    intro a ha b hb
    simp only [List.map_cons, List.map_nil, List.mem_singleton] at hb
    subst hb
    obtain ⟨d, hd, rfl⟩ := List.mem_map.1 ha
    obtain ⟨i, hi⟩ := List.mem_iff_getElem?.1 hd
    have := (h0.node i d hi).2.lt
    omega
  pars := by
    intro i d hd
    rw [List.getElem?_append] at hd
    split at hd
    · rcases h.pars i d hd with h1 | ⟨j, e, hj, he, h1⟩
      · exact .inl h1
      · exact .inr ⟨j, e, hj, by rw [List.getElem?_append_left (List.getElem?_eq_some_iff.1 he).1]; exact he, h1⟩
    · rename_i hi
      obtain rfl : d = nd := by
        have hl := (List.getElem?_eq_some_iff.1 hd).1
        simp only [List.length_cons, List.length_nil] at hl
        have hi' : i = ds.length := by omega
        subst hi'
        simp at hd
        exact hd.symm
      rcases hp with h1 | ⟨j, e, he, h1⟩
      · exact .inl h1
      · have hj := (List.getElem?_eq_some_iff.1 he).1
        exact .inr ⟨j, e, by omega, by rw [List.getElem?_append_left hj]; exact he, h1⟩
end Go.Proofs.YtlhlcdlkilpbhaaDoor
