/-
  The walk of impl's slices.Delete at items, of one item: the row holds the others, in their order. Condition: the row is the call's own. Plain facts.
-/
import Derived.Test.YtadpgoiiopfnnaaDoorWClone
import Derived.Test.YtadpgoiiopfnnaaDoorRmvA
namespace Go.Proofs.YtadpgoiiopfnnaaDoor
open Go Go.RowKit
theorem itemCells_cons (x : It) (r : List It) : itemCells (x :: r) = .int .i64 x.kind :: .string x.name :: .int .i64 x.scope :: itemCells r := rfl
theorem itemCells_take : ∀ (xs : List It) (b : Nat), itemCells (xs.take b) = (itemCells xs).take (b * 3)
  | [], b => by simp [itemCells]
  | x :: r, 0 => by simp [itemCells]
  | x :: r, b + 1 => by
    have h := itemCells_take r b
    rw [show (b + 1) * 3 = b * 3 + 1 + 1 + 1 by omega, List.take_succ_cons, itemCells_cons, itemCells_cons, List.take_succ_cons, List.take_succ_cons, List.take_succ_cons, h]
theorem itemCells_drop : ∀ (xs : List It) (b : Nat), itemCells (xs.drop b) = (itemCells xs).drop (b * 3)
  | [], b => by simp [itemCells]
  | x :: r, 0 => by simp
  | x :: r, b + 1 => by
    have h := itemCells_drop r b
    rw [show (b + 1) * 3 = b * 3 + 1 + 1 + 1 by omega, List.drop_succ_cons, itemCells_cons, List.drop_succ_cons, List.drop_succ_cons, List.drop_succ_cons, h]
theorem itemCells_append (xs ys : List It) : itemCells (xs ++ ys) = itemCells xs ++ itemCells ys := by simp [itemCells]
theorem itemCells_one (xs : List It) : ∀ u ∈ itemCells xs, u.oneCell' = true := by
  intro u hu
  unfold itemCells at hu
  obtain ⟨x, _, hx⟩ := List.mem_flatMap.1 hu
  simp only [List.mem_cons, List.not_mem_nil, or_false] at hx
  rcases hx with rfl | rfl | rfl <;> rfl
theorem itemCells_erase (xs : List It) (b : Nat) : itemCells (xs.eraseIdx b) = (itemCells xs).take (b * 3) ++ (itemCells xs).drop ((b + 1) * 3) := by
  rw [List.eraseIdx_eq_take_drop_succ, itemCells_append, itemCells_take, itemCells_drop]
set_option maxRecDepth 100000 in
set_option maxHeartbeats 4000000 in
theorem delete_any (g cap n b B : Nat) (xs : List It) (_hl : xs.length = n + 1) (hb : b ≤ n) (w : World) (h : w.ownsRow B 65 3 (.slice (some ⟨g, 0, none⟩) (n + 1) cap) (n + 1) (itemCells xs)) :
    Calls Tryd.prog 141 #[.slice (some ⟨g, 0, none⟩) (n + 1) cap, .int .i64 (b : Int), .int .i64 ((b : Int) + 1)] w fun e w' => e = .returned (.slice (some ⟨g, 0, none⟩) n cap) ∧ w'.ownsRow B 65 3 (.slice (some ⟨g, 0, none⟩) n cap) n (itemCells (xs.eraseIdx b)) ∧ w.grownBy w' (some g) := by
  obtain ⟨hlen, ⟨h0, _⟩ | ⟨g', cap', cur, hv, hB, hh, hnc, hcm, hs, ht⟩⟩ := h
  · simp at h0
  simp only [Value.slice.injEq, Option.some.injEq, Addr.mk.injEq] at hv
  obtain ⟨⟨rfl, -, -⟩, -, rfl⟩ := hv
  obtain ⟨i0, hi0, hz0, hz1, hz2⟩ := info_parts infoItem
  have hcl : (itemCells xs).length = (n + 1) * 3 := hlen
  -- what is moved
  obtain ⟨news, hnews⟩ : ∃ news, news = (itemCells xs).drop ((b + 1) * 3) := ⟨_, rfl⟩
  have hnl : news.length = (n - b) * 3 := by rw [hnews, List.length_drop, hcl]; omega
  have hget : ∀ j u, news[j]? = some u → w.drew.cell? ⟨g, (b + 1) * 3 + j, none⟩ = some u := fun j u hu => by
    rw [hnews, List.getElem?_drop, ← ht, List.getElem?_take] at hu
    split at hu
    · rw [Array.getElem?_toList] at hu
      show w.cell? _ = _
      simp only [World.cell?, hh]
      exact hu
    · cases hu
  have hmc : cap ≤ 9223372036854775807 := by unfold maxLen at hcm; omega
  obtain ⟨A, hA, hsrc⟩ : ∃ A : Addr, (if cap = b + 1 then some (⟨g, 0, none⟩ : Addr) else some ⟨g, (b + 1) * 3, none⟩) = some A ∧ Hid (∀ j u, news[j]? = some u → w.drew.cell? (A.add j) = some u) := by
    by_cases hc : cap = b + 1
    · refine ⟨⟨g, 0, none⟩, by simp [hc], Lib.hid fun j u hu => ?_⟩
      have h0 : news.length = 0 := by rw [hnl]; omega
      rw [List.length_eq_zero_iff.1 h0] at hu
      simp at hu
    · refine ⟨⟨g, (b + 1) * 3, none⟩, by simp [hc], Lib.hid fun j u hu => ?_⟩
      rw [Addr.add_lit]
      exact hget j u hu
  have hone : ∀ u ∈ news, u.oneCell' = true := fun u hu => itemCells_one xs u (by rw [hnews] at hu; exact List.mem_of_mem_drop hu)
  have hrun := run_append_room (P := Tryd.prog) w.drew 88 88 65 i0 Tryd.underlying88 hi0 g b cap cur hh A (n - b) (cap - (b + 1)) news (by rw [hz1]; exact hnl) hsrc.out hone (by omega) (by rw [hz1, hnl, hs]; have : (b + (n - b)) * 3 ≤ cap * 3 := Nat.mul_le_mul_right 3 (by omega); omega)
  -- the world behind the append, and behind the clear
  have hcur : cur.size = cap * 3 := hs
  obtain ⟨c1, hc1⟩ : ∃ c1 : Array Value, c1 = (cur.toList.take (b * i0.size) ++ news ++ cur.toList.drop (b * i0.size + news.length)).toArray := ⟨_, rfl⟩
  rw [← hc1] at hrun
  have hc1l : c1.toList = cur.toList.take (b * 3) ++ news ++ cur.toList.drop (b * 3 + news.length) := by rw [hc1, hz1]
  have hcn : (b + (n - b)) = n := by omega
  rw [hcn] at hrun
  have hsz1 : c1.size = cap * 3 := by
    rw [← Array.length_toList, hc1l]
    have : b * 3 + news.length ≤ cap * 3 := by rw [hnl]; have : (b + (n - b)) * 3 ≤ cap * 3 := Nat.mul_le_mul_right 3 (by omega); omega
    simp only [List.length_append, List.length_take, List.length_drop, Array.length_toList, hcur]
    omega
  have hW1 : (w.drew.setRow g c1).heap[g]? = some (.cells c1 65 (0, 0)) := setRow_heap w.drew g cur c1 _ _ hh
  have hle : (n + 1) * 3 ≤ cap * 3 := Nat.mul_le_mul_right 3 hnc
  have hst := run_storeCells_at (P := Tryd.prog) g (n * 3) 65 [Value.int .i64 0, Value.string ⟨#[]⟩, Value.int .i64 0] 0 c1 (w.drew.setRow g c1) hW1 (by rw [hsz1]; simp; omega) (by intro u hu; simp only [List.mem_cons, List.not_mem_nil, or_false] at hu; rcases hu with rfl | rfl | rfl <;> rfl)
  simp only [Nat.add_zero, List.length_cons, List.length_nil] at hst
  obtain ⟨c2, hc2⟩ : ∃ c2 : Array Value, c2 = (c1.toList.take (n * 3) ++ [Value.int .i64 0, Value.string ⟨#[]⟩, Value.int .i64 0] ++ c1.toList.drop (n * 3 + (0 + 1 + 1 + 1))).toArray := ⟨_, rfl⟩
  rw [← hc2] at hst
  have hclear : ∀ (ty : TypeId) (c : Nat), (Builtin.clear_ #[88] ty #[.slice (some ⟨g, n * 3, none⟩) 1 c]).run Tryd.prog (w.drew.setRow g c1) = .ok (.tuple #[]) ((w.drew.setRow g c1).setRow g c2) := fun ty c => by
    have hz : ∀ W : World, (zeroValue 65).run Tryd.prog W = .ok (.agg #[.int .i64 0, .string ⟨#[]⟩, .int .i64 0]) W := fun W => by kernel_rfl
    have hzc : (Builtin.zeroCells (Value.agg #[.int .i64 0, .string ⟨#[]⟩, .int .i64 0]).cells 1).toList = [Value.int .i64 0, Value.string ⟨#[]⟩, Value.int .i64 0] := by kernel_rfl
    simp [Builtin.clear_, run_underlying Tryd.underlying88, hz, hzc, hst]
  have HEND : Hid (((w.drew.setRow g c1).setRow g c2).ownsRow B 65 3 (.slice (some ⟨g, 0, none⟩) n cap) n (itemCells (xs.eraseIdx b)) ∧ w.grownBy ((w.drew.setRow g c1).setRow g c2) (some g)) := Lib.hid (by
    have hW2 : ((w.drew.setRow g c1).setRow g c2).heap[g]? = some (.cells c2 65 (0, 0)) := setRow_heap _ g c1 c2 _ _ hW1
    have hc2l : c2.toList = c1.toList.take (n * 3) ++ [Value.int .i64 0, Value.string ⟨#[]⟩, Value.int .i64 0] ++ c1.toList.drop (n * 3 + 3) := by rw [hc2]
    have hnn : (n - b) * 3 + b * 3 = n * 3 := by rw [← Nat.add_mul]; congr 1; omega
    have hbn : b * 3 ≤ n * 3 := Nat.mul_le_mul_right 3 hb
    have e1 : (itemCells xs).take (b * 3) = cur.toList.take (b * 3) := by rw [← ht, List.take_take, Nat.min_eq_left (by omega)]
    have e2 : (cur.toList.take (b * 3) ++ news).length = n * 3 := by simp only [List.length_append, List.length_take, Array.length_toList, hcur, hnl]; omega
    have hel : itemCells (xs.eraseIdx b) = c1.toList.take (n * 3) := by rw [itemCells_erase, e1, ← hnews, hc1l, ← e2, List.take_left]
    refine ⟨⟨?_, .inr ⟨g, cap, c2, rfl, hB, hW2, by omega, hcm, ?_, ?_⟩⟩, ⟨rfl, rfl, rfl, by simp, fun k hk hne => ?_⟩⟩
    · rw [hel, List.length_take, Array.length_toList, hsz1]; omega
    · rw [← Array.length_toList, hc2l]
      simp only [List.length_append, List.length_take, List.length_drop, Array.length_toList, hsz1, List.length_cons, List.length_nil]
      omega
    · rw [hel, hc2l, List.append_assoc, List.take_append_of_le_length (by rw [List.length_take, Array.length_toList, hsz1]; omega), List.take_take, Nat.min_self]
    · have h1 : k ≠ g := fun e => hne (by rw [e])
      rw [setRow_other _ _ _ _ h1, setRow_other _ _ _ _ h1]
      rfl)
  have hne : ((b : Int) == ((b + 1 : Nat) : Int)) = false := by simp; omega
  have hb1 : (b : Int) ≤ (n : Int) + 1 := by omega
  have hbc : b ≤ cap := by omega
  have hb0 : (0 : Int) ≤ (b : Int) + 1 := by omega
  have hnn1 : n + 1 - n = 1 := by omega
  have hnc2 : n ≤ cap := by omega
  have hnc3 : ¬ cap = n := by omega
  clear hlen ht hcl hnews hnl hget hsrc hone hc1 hc1l hsz1 hW1 hcur hst hc2 hle
  go_enter Tryd.func141, Tryd.ntmps141
  go_wp2
  simp [go_sem, hcn, hnc2] at hrun
  refine wp_region_kept (S := fun _ => True) 20 (by kernel_rfl) ?_
  have hS0 : True := trivial
  refine KeptAny.take (i := 0) (v := ?_) (by kernel_rfl) rfl rfl (by kernel_rfl) (by kernel_rfl) (by kernel_rfl) (fun _ _ _ h => h) (by rfl) (fun w' hw' => ?_) (fun _ => rfl) hS0 ?_
  rotate_left
  · (go_simp; try with_reducible rfl)
  refine KeptAny.take (i := 1) (v := ?_) (by kernel_rfl) rfl rfl (by kernel_rfl) (by kernel_rfl) (by kernel_rfl) (fun _ _ _ h => h) (by rfl) (fun w' hw' => ?_) (fun _ => rfl) hS0 ?_
  rotate_left
  · (go_simp; try with_reducible rfl)
  refine KeptAny.take (i := 2) (v := ?_) (by kernel_rfl) rfl rfl (by kernel_rfl) (by kernel_rfl) (by kernel_rfl) (fun _ _ _ h => h) (by rfl) (fun w' hw' => ?_) (fun _ => rfl) hS0 ?_
  rotate_left
  · (go_simp; try with_reducible rfl)
  refine KeptAny.take (i := 3) (v := ?_) (by kernel_rfl) rfl rfl (by kernel_rfl) (by kernel_rfl) (by kernel_rfl) (fun _ _ _ h => h) (by rfl) (fun w' hw' => ?_) (fun _ => rfl) hS0 ?_
  rotate_left
  · (go_simp; try with_reducible rfl)
  refine KeptAny.take (i := 4) (v := ?_) (by kernel_rfl) rfl rfl (by kernel_rfl) (by kernel_rfl) (by kernel_rfl) (fun _ _ _ h => h) (by rfl) (fun w' hw' => ?_) (fun _ => rfl) hS0 ?_
  rotate_left
  · (go_simp; try with_reducible rfl)
  refine KeptAny.take (i := 5) (v := ?_) (by kernel_rfl) rfl rfl (by kernel_rfl) (by kernel_rfl) (by kernel_rfl) (fun _ _ _ h => h) (by rfl) (fun w' hw' => ?_) (fun _ => rfl) hS0 ?_
  rotate_left
  · (go_simp; try with_reducible rfl)
  refine KeptAny.one (i := 6) (by kernel_rfl) rfl (by rfl) (fun K hK => ?_)
  go_simp
  refine hK.out _ _ trivial (fun _ => ?_)
  clear hK
  refine KeptAny.one (i := 7) (by kernel_rfl) rfl (by rfl) (fun K hK => ?_)
  go_simp
  refine hK.out _ _ trivial (fun _ => ?_)
  clear hK
  refine KeptAny.done (by kernel_rfl) ?_ _
  go_wp2
  go_ret
  exact ⟨rfl, HEND.out⟩
end Go.Proofs.YtadpgoiiopfnnaaDoor
