/-
  Numbers in a block of one's own from some cell on: a slice that is appended to, and whose first element is left out. Plain facts, and the law at an append of one number.
-/
import Derived.Test.YtmfglfhloahmlaaDoorWMarkGraph
import Derived.Deep.AppendSrc
namespace Go.Proofs.YtmfglfhloahmlaaDoor
open Go Go.RowKit
/-- Block g holds these numbers from some cell on, as a slice's value tells. -/
def Arr (w : World) (g : Nat) (v : Value) (xs : List Int) : Prop :=
  ∃ (off cap : Nat) (cur : Array Value), v = .slice (some ⟨g, off, none⟩) xs.length cap ∧ w.heap[g]? = some (.cells cur 3 (0, 0)) ∧ off + cap ≤ cur.size ∧ xs.length ≤ cap ∧ ∀ i x, xs[i]? = some x → cur[off + i]? = some (.int .i64 x)
theorem Arr.lt {w : World} {g : Nat} {v : Value} {xs : List Int} (h : Arr w g v xs) : g < w.heap.size := by
  obtain ⟨off, cap, cur, _, hh, _⟩ := h
  exact (Array.getElem?_eq_some_iff.1 hh).1
theorem Arr.same {w w' : World} {g : Nat} {v : Value} {xs : List Int} (h : Arr w g v xs) (hb : w'.heap[g]? = w.heap[g]?) : Arr w' g v xs := by
  obtain ⟨off, cap, cur, hv, hh, r⟩ := h
  exact ⟨off, cap, cur, hv, hb.trans hh, r⟩
theorem Arr.below {w w' : World} {g C : Nat} {v : Value} {xs : List Int} (h : Arr w g v xs) (hb : Below C w w') (hg : g < C) : Arr w' g v xs := h.same (hb.block g hg)
theorem Arr.grown {w w' : World} {g r : Nat} {v : Value} {xs : List Int} (h : Arr w g v xs) (hg : w.grownBy w' (some r)) (hne : g ≠ r) : Arr w' g v xs := h.same (hg.block g h.lt (by simpa using hne))
theorem Arr.made (w : World) : Arr (w.alloc (.cells #[] 3)) w.heap.size (.slice (some ⟨w.heap.size, 0, none⟩) 0 0) [] :=
  ⟨0, 0, #[], rfl, by rw [World.alloc, Array.getElem?_push]; simp, by simp, by simp, by simp⟩
theorem Arr.one (w : World) (n : Int) : Arr (w.alloc (.cells #[.int .i64 n] 3)) w.heap.size (.slice (some ⟨w.heap.size, 0, none⟩) 1 1) [n] :=
  ⟨0, 1, #[.int .i64 n], rfl, by rw [World.alloc, Array.getElem?_push]; simp, by simp, by simp, fun i x hx => by
    cases i with
    | zero => simp at hx; subst hx; rfl
    | succ i => simp at hx⟩
theorem Arr.shape {w : World} {g : Nat} {v : Value} {xs : List Int} (h : Arr w g v xs) : ∃ off cap, v = .slice (some ⟨g, off, none⟩) xs.length cap ∧ xs.length ≤ cap ∧ ∀ i x, xs[i]? = some x → w.cell? ⟨g, off + i, none⟩ = some (.int .i64 x) := by
  obtain ⟨off, cap, cur, hv, hh, h1, h2, h3⟩ := h
  refine ⟨off, cap, hv, h2, fun i x hx => ?_⟩
  simp [World.cell?, hh, h3 i x hx]
theorem Arr.ints {w : World} {g : Nat} {v : Value} {xs : List Int} (h : Arr w g v xs) : ∃ oa cap, v = .slice oa xs.length cap ∧ HoldsInts w oa xs := by
  obtain ⟨off, cap, hv, _, hc⟩ := h.shape
  exact ⟨_, cap, hv, .inr ⟨g, off, rfl, h.lt, hc⟩⟩
/-- The first number left out. -/
theorem Arr.tail {w : World} {g off cap n : Nat} {k : Int} {xs : List Int} (h : Arr w g (.slice (some ⟨g, off, none⟩) n cap) (k :: xs)) : Arr w g (.slice (some ⟨g, off + 1, none⟩) xs.length (cap - 1)) xs := by
  obtain ⟨off', cap', cur, hv, hh, h1, h2, h3⟩ := h
  simp only [Value.slice.injEq, Option.some.injEq, Addr.mk.injEq, true_and, and_true] at hv
  obtain ⟨rfl, rfl, rfl⟩ := hv
  rw [List.length_cons] at h2
  refine ⟨off + 1, cap - 1, cur, rfl, hh, by omega, by omega, fun i x hx => ?_⟩
  have := h3 (i + 1) x (by simpa using hx)
  rwa [show off + (i + 1) = off + 1 + i from by omega] at this
theorem Arr.tail1 {w : World} {g off n : Nat} {k : Int} {xs : List Int} (h : Arr w g (.slice (some ⟨g, off, none⟩) n 1) (k :: xs)) : xs = [] ∧ Arr w g (.slice (some ⟨g, off, none⟩) 0 0) [] := by
  obtain ⟨off', cap', cur, hv, hh, h1, h2, h3⟩ := h
  simp only [Value.slice.injEq, Option.some.injEq, Addr.mk.injEq, true_and, and_true] at hv
  obtain ⟨rfl, rfl, rfl⟩ := hv
  rw [List.length_cons] at h2
  refine ⟨List.eq_nil_of_length_eq_zero (by omega), ⟨off, 0, cur, rfl, hh, by omega, by simp, by simp⟩⟩
theorem infoArr : (Tryd.prog.info? 3).map (fun i => (i.zero, i.size, i.bytes)) = some (some (.int .i64 0), 1, 8) := by kernel_rfl
theorem run_append_arr {w : World} {g : Nat} {v : Value} {xs : List Int} (h : Arr w g v xs) (hl : xs.length < 1000000) (ty : TypeId) (ad : Addr) (c : Nat) (m : Int) (hnews : ∀ j u, [Value.int .i64 m][j]? = some u → w.cell? (ad.add j) = some u) :
    ∃ v' w' g', (Builtin.append_ #[26, 26] ty #[v, .slice (some ad) 1 c]).run Tryd.prog w = .ok v' w' ∧ Arr w' g' v' (xs ++ [m]) ∧ (g' = g ∨ g' = w.heap.size) ∧ w.grownBy w' (some g) := by
  obtain ⟨off, cap, cur, rfl, hh, h1, h2, h3⟩ := h
  obtain ⟨i0, hi, hz0, hz1, hz2⟩ := info_parts infoArr
  have ht := Tryd.underlying26
  have hs : Src Tryd.prog i0.size 26 (.slice (some ad) 1 c) 1 [.int .i64 m] w := by
    rw [hz1]
    exact Src.ofSlice w ht ad 1 c _ rfl hnews (fun u hu => by simp only [List.mem_singleton] at hu; subst hu; rfl)
  by_cases hroom : xs.length + 1 ≤ cap
  · have hcell : off + xs.length < cur.size := by omega
    have hsome : (w.cell? ⟨g, off + xs.length, none⟩).isSome = true := by simp [World.cell?, hh, hcell]
    have hfr : ∀ j, w.frozen? ⟨g, j, none⟩ = false := fun j => by simp [World.frozen?, hh]
    have hrun := run_append_room_src (P := Tryd.prog) w 26 26 ty 3 i0 ht hi g off xs.length cap _ 1 _ hs hroom (fun j hj => by
      have : j = 0 := by simpa using hj
      subst this
      rw [hz1]
      simpa using hsome) (fun j _ => hfr _)
    have e : w.setCells g (off + xs.length * i0.size) [.int .i64 m] = w.setCell ⟨g, off + xs.length, none⟩ (.int .i64 m) := by
      rw [hz1, Nat.mul_one]
      rfl
    rw [e] at hrun
    refine ⟨_, _, g, hrun, ⟨off, cap, cur.setIfInBounds (off + xs.length) (.int .i64 m), by rw [List.length_append]; rfl, ?_, by simpa using h1, by simpa using hroom, fun i x hx => ?_⟩, .inl rfl, ⟨rfl, rfl, rfl, by simp, fun k _ hk => Below.heap_setCell _ _ _ _ (by simpa using hk)⟩⟩
    · simp [World.setCell, Array.getElem?_modify, hh]
    · rw [List.getElem?_append] at hx
      split at hx
      · rename_i hi'
        rw [Array.getElem?_setIfInBounds_ne (by omega)]
        exact h3 i x hx
      · rename_i hi'
        have hi0 : i = xs.length := by
          have := (List.getElem?_eq_some_iff.1 hx).1
          simp at this
          omega
        subst hi0
        simp at hx
        subst hx
        simp [hcell]
  · have holds : ∀ j u, (xs.map (Value.int .i64))[j]? = some u → w.drew.cell? ((⟨g, off, none⟩ : Addr).add j) = some u := fun j u hu => by
      rw [List.getElem?_map] at hu
      obtain ⟨x, hx, rfl⟩ := Option.map_eq_some_iff.1 hu
      rw [Addr.add_lit]
      show w.cell? ⟨g, off + j, none⟩ = _
      simp [World.cell?, hh, h3 j x hx]
    have hold := run_firstCells_some (P := Tryd.prog) w.drew i0.size xs.length ⟨g, off, none⟩ xs.length cap (xs.map (Value.int .i64)) (by rw [hz1]; simp) holds
    have hrun := run_append_grow_src (P := Tryd.prog) w 26 26 ty 3 i0 (.int .i64 0) ht hi hz0 (some ⟨g, off, none⟩) xs.length cap _ hold _ 1 _ hs (by omega) (by omega) (growslice_fits (by omega) (by rw [hz2]; omega))
    have hge := grownCap_ge w (xs.length + 1) cap 3
    have hsz : ((xs.map (Value.int .i64) ++ [Value.int .i64 m]).toArray ++ Builtin.zeroCells (Value.int .i64 0).cells (grownCap w (xs.length + 1) cap 3 - (xs.length + 1))).size = grownCap w (xs.length + 1) cap 3 := by
      rw [Array.size_append, size_zeroCells]
      simp [Value.cells]
      omega
    refine ⟨_, _, w.heap.size, hrun, ⟨0, grownCap w (xs.length + 1) cap 3, _, by rw [List.length_append]; rfl, heap_alloc_new w.drew _, by rw [hsz]; omega, by simpa using hge, fun i x hx => ?_⟩, .inr rfl, ⟨rfl, rfl, rfl, by simp, fun k hk _ => heap_alloc_old w.drew _ hk⟩⟩
    have hil := (List.getElem?_eq_some_iff.1 hx).1
    rw [Nat.zero_add, Array.getElem?_append_left (by simpa using hil), List.getElem?_toArray]
    have : xs.map (Value.int .i64) ++ [Value.int .i64 m] = (xs ++ [m]).map (Value.int .i64) := by simp
    rw [this, List.getElem?_map, hx]
    rfl
theorem wpList_append_arr {w : World} {ops : Array Oper} {rest : List Oper} {o : Oper} {a : Act} {Q : Exit → Act → World → Prop} (hgd : o.guard = none) (s x : Operand)
    (ho : o.op = .call { callee := .builtin .append, args := #[s, x], argTypes := #[26, 26] })
    {g : Nat} {v : Value} {xs : List Int} (hs : a.eval s = v) (h : Arr w g v xs) (hl : xs.length < 1000000) (ad : Addr) (c : Nat) (m : Int) (hx : a.eval x = .slice (some ad) 1 c)
    (hnews : ∀ j u, [Value.int .i64 m][j]? = some u → w.cell? (ad.add j) = some u)
    (hK : ∀ v' w' g', Arr w' g' v' (xs ++ [m]) → (g' = g ∨ g' = w.heap.size) → w.grownBy w' (some g) → wpList Tryd.prog ops Q rest (a.put o.dst v') w') : wpList Tryd.prog ops Q (o :: rest) a w := by
  refine wpList_plain hgd fun K hK' => ?_
  obtain ⟨v', w', g', hrun, r1, r2, r3⟩ := run_append_arr h hl o.type ad c m hnews
  unfold Oper.wp
  simp [execOp, ho, resolve, invoke, builtin, hs, hx, hrun, Result.andThen]
  exact hK' _ _ (hK v' w' g' r1 r2 r3)
end Go.Proofs.YtmfglfhloahmlaaDoor
