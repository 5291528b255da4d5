/-
  A graph without an item: it is valid where the graph is; where its items stand then; which items mean something else then, as plain data. Plain facts. The walks of impl's slices.Clone at items, (Scope).clone and (Graph).clone, and of the given l6Copy: a copy of a graph, in memory of the call's own. Condition: the argument's memory holds the graph. The walk of impl's slices.Delete at items, of one item: the row holds the others, in their order. Condition: the row is the call's own. Plain facts. The walks of impl's (Graph).without and RemoveItem. Conditions: the argument's memory holds the graph; the package-level errors hold errors. The walks of the given l6Copy, l6Remove, l6RawRemoveItem and RemoveItem. Condition: the argument's memory holds the graph. The walks of the given l6Remove, l6RawRemoveItem and RemoveItem. Condition: the argument's memory holds the graph. What the walks of the exact laws with an answer without memory of its own share. Plain facts. The walks of the laws' markItemS, markScopeS, markGraph, heldItemS, heldScopeS and heldGraph over a graph that a call handed back: once marked, it is found marked. Condition: the graph's memory is the call's own. The walks of RemoveItem, given and impl. Conditions: the argument's memory holds the graph; the package-level errors hold errors. The walk of the law FnExactRemoveItem: at every argument it returns true, and only new memory is written. Condition: the package-level errors hold errors. (The results are graphs that lie in boxes; genlawgr.py writes this text.)
-/
import Derived.Test.YtppgdigcopkeiaaDoorMean
import Derived.Test.YtppgdigcopkeiaaDoorSees
import Derived.Test.YtppgdigcopkeiaaDoorParseT
import Derived.Test.YtppgdigcopkeiaaDoorRegionRound
import Derived.Test.YtppgdigcopkeiaaDoorWRes
import Derived.Lib.SliceRun
import Derived.Test.YtppgdigcopkeiaaDoorWDrawAll
import Derived.Test.YtppgdigcopkeiaaDoorWItemAt
import Derived.Test.YtppgdigcopkeiaaDoorWState
import Derived.Test.YtppgdigcopkeiaaDoorLawPls
import Derived.Test.YtppgdigcopkeiaaDoorWMarksP
import Derived.Lib.QuietBelow
import Derived.BigQuiet
import Derived.ChangeSame
import Derived.ProofKit
import Derived.OpenShut
import Derived.Deep.RegionHeld3
namespace Go.Proofs.YtppgdigcopkeiaaDoor
open Go Go.RowKit
def rmvSc (b : Nat) (s : Sc) : Sc := ⟨s.parent, s.items.eraseIdx b⟩
/-- The graph without the item b of the scope a. -/
def rmvP : List Sc → Nat → Nat → List Sc
  | [], _, _ => []
  | s :: r, 0, b => rmvSc b s :: r
  | s :: r, a + 1, b => s :: rmvP r a b
theorem rmvP_length : ∀ (ss : List Sc) (a b : Nat), (rmvP ss a b).length = ss.length
  | [], _, _ => rfl
  | s :: r, 0, b => rfl
  | s :: r, a + 1, b => by simp [rmvP, rmvP_length r a b]
theorem rmvP_get : ∀ (ss : List Sc) (a b i : Nat), (rmvP ss a b)[i]? = (ss[i]?).map fun s => if i = a then rmvSc b s else s
  | [], a, b, i => by simp [rmvP]
  | s :: r, 0, b, 0 => by simp [rmvP]
  | s :: r, 0, b, i + 1 => by simp [rmvP]
  | s :: r, a + 1, b, 0 => by simp [rmvP]
  | s :: r, a + 1, b, i + 1 => by simp [rmvP, rmvP_get r a b i]
theorem rmvP_same {ss : List Sc} {a b : Nat} {s : Sc} (h : ss[a]? = some s) : (rmvP ss a b)[a]? = some (rmvSc b s) := by rw [rmvP_get, h]; simp
theorem rmvP_other {ss : List Sc} {a b i : Nat} (h : i ≠ a) : (rmvP ss a b)[i]? = ss[i]? := by
  rw [rmvP_get]
  cases ss[i]? <;> simp [h]
theorem mem_rmvP : ∀ {ss : List Sc} {a b : Nat} {t : Sc}, t ∈ rmvP ss a b → ∃ s ∈ ss, t.parent = s.parent ∧ t.items.Sublist s.items
  | s :: r, 0, b, t, h => by
    have h' : t ∈ rmvSc b s :: r := h
    rcases List.mem_cons.1 h' with rfl | h'
    · exact ⟨s, List.mem_cons_self, rfl, List.eraseIdx_sublist _ _⟩
    · exact ⟨t, List.mem_cons_of_mem _ h', rfl, List.Sublist.refl _⟩
  | s :: r, a + 1, b, t, h => by
    have h' : t ∈ s :: rmvP r a b := h
    rcases List.mem_cons.1 h' with rfl | h'
    · exact ⟨t, List.mem_cons_self, rfl, List.Sublist.refl _⟩
    · obtain ⟨u, h1, h2⟩ := mem_rmvP h'
      exact ⟨u, List.mem_cons_of_mem _ h1, h2⟩
theorem rmv_flat : ∀ (ss : List Sc) (a b i : Nat), (flat i (rmvP ss a b)).Sublist (flat i ss)
  | [], _, _, _ => List.Sublist.refl _
  | _ :: _, 0, _, _ => List.Sublist.append ((List.eraseIdx_sublist _ _).map _) (List.Sublist.refl _)
  | _ :: r, a + 1, b, i => List.Sublist.append (List.Sublist.refl _) (rmv_flat r a b (i + 1))
theorem rmv_parent (ss : List Sc) (a b i : Nat) : (rmvP ss a b)[i]?.map Sc.parent = ss[i]?.map Sc.parent := by
  rw [rmvP_get]
  cases ss[i]? with
  | none => rfl
  | some s => by_cases h : i = a <;> simp [h, rmvSc]
theorem rmv_modB (ss : List Sc) (a b i : Nat) (x : It) : modB (rmvP ss a b) i x = modB ss i x := by
  unfold modB
  rw [rmvP_length, rmv_parent]
theorem Valid.rmv {ss : List Sc} (h : Valid ss) (a b : Nat) : Valid (rmvP ss a b) where
  count := by rw [rmvP_length]; exact h.count
  scopes := fun i t ht => by
    rw [rmvP_get] at ht
    cases hs : ss[i]? with
    | none => rw [hs] at ht; cases ht
    | some s =>
      rw [hs] at ht
      have h1 := h.scopes i s hs
      simp only [Option.map_some, Option.some.injEq] at ht
      subst ht
      by_cases hi : i = a
      · rw [if_pos hi]
        unfold scopeB at h1 ⊢
        simp only [Bool.and_eq_true, decide_eq_true_eq] at h1 ⊢
        exact ⟨Nat.le_trans (List.eraseIdx_sublist s.items b).length_le h1.1, h1.2⟩
      · rw [if_neg hi]; exact h1
  items := ⟨fun q hq => by
      have h1 := h.items.1 q ((rmv_flat ss a b 0).subset hq)
      rw [rmv_modB]
      exact h1, by
      have h2 := h.items.2
      unfold modsOf at h2 ⊢
      exact List.Sublist.nodup (((rmv_flat ss a b 0).map _).filter _ |>.map _) h2⟩
/-- The index of an item behind a removal, and its place. -/
def aftN (a b i j : Nat) : Nat := if i = a ∧ b < j then j - 1 else j
def aftI (a b : Int) (p : Int × Int) : Int × Int := if p.1 = a ∧ b < p.2 then (p.1, p.2 - 1) else p
theorem aftI_nat (a b i j : Nat) : aftI (a : Int) (b : Int) ((i : Int), (j : Int)) = ((i : Int), (aftN a b i j : Int)) := by
  unfold aftI aftN
  by_cases h : i = a ∧ b < j
  · rw [if_pos ⟨by have := h.1; dsimp only; omega, by have := h.2; dsimp only; omega⟩, if_pos h]
    dsimp only
    rw [show ((j : Int) - 1) = ((j - 1 : Nat) : Int) by omega]
  · rw [if_neg (fun hh => h ⟨by have := hh.1; dsimp only at this; omega, by have := hh.2; dsimp only at this; omega⟩), if_neg h]
/-- Every other item is there. -/
theorem placed_rmv {ss : List Sc} {a b i j : Nat} {x : It} (h : (i, j, x) ∈ placed 0 ss) (hne : ¬ (i = a ∧ j = b)) : (i, aftN a b i j, x) ∈ placed 0 (rmvP ss a b) := by
  obtain ⟨s, h1, h2⟩ := placed_at h
  dsimp only at h1 h2
  by_cases hi : i = a
  · subst hi
    refine placed_of (rmvP_same h1) ?_
    unfold rmvSc aftN
    dsimp only
    rw [List.getElem?_eraseIdx]
    by_cases hb : b < j
    · have e : (if i = i ∧ b < j then j - 1 else j) = j - 1 := if_pos ⟨rfl, hb⟩
      rw [e, if_neg (by omega), show j - 1 + 1 = j by omega]
      exact h2
    · have e : (if i = i ∧ b < j then j - 1 else j) = j := if_neg (fun h => hb h.2)
      have hj : j ≠ b := fun e => hne ⟨rfl, e⟩
      rw [e, if_pos (by omega)]
      exact h2
  · refine placed_of (s := s) ?_ ?_
    · rw [rmvP_other hi]; exact h1
    · unfold aftN
      rw [if_neg (fun h => hi h.1)]
      exact h2
theorem Fair.rmv {ss : List Sc} (h : Fair ss) (a b : Nat) : Fair (rmvP ss a b) where
  count := by rw [rmvP_length]; exact h.count
  items := fun t ht => by
    obtain ⟨s, hs, _, h2⟩ := mem_rmvP ht
    exact Nat.le_trans h2.length_le (h.items s hs)
  fits := ⟨by rw [rmvP_length]; exact h.fits.1, fun t ht => by
    obtain ⟨s, hs, _, h2⟩ := mem_rmvP ht
    have h3 := h.fits.2 s hs
    exact ⟨Nat.le_trans h2.length_le h3.1, fun x hx => h3.2 x (h2.subset hx)⟩⟩
  nums := by
    intro t ht
    obtain ⟨s, hs, h1, h2⟩ := mem_rmvP ht
    have h3 := h.nums s hs
    exact ⟨by rw [h1]; exact h3.1, fun x hx => h3.2 x (h2.subset hx)⟩
/-- Whether an item means the same when the item b of the scope a is removed. -/
def sameB (ss : List Sc) (a b : Nat) (q : Nat × Nat × It) : Bool :=
  !decide (((a : Int), (b : Int)) ∈ meanIt ss q) && decide ((meanIt ss q).map (aftI (a : Int) (b : Int)) = meanIt (rmvP ss a b) (q.1, aftN a b q.1 q.2.1, q.2.2))
def chgB (ss : List Sc) (a b : Nat) (q : Nat × Nat × It) : Bool := !(decide (q.1 = a ∧ q.2.1 = b)) && !sameB ss a b q
/-- The places of the items that mean something else then. -/
def chgP (ss : List Sc) (a b : Nat) : List (Int × Int) := filtL (chgB ss a b) (placed 0 ss)
end Go.Proofs.YtppgdigcopkeiaaDoor
namespace Go.Proofs.YtppgdigcopkeiaaDoor
open Go Go.RowKit
set_option maxRecDepth 100000 in
set_option maxHeartbeats 1600000 in
theorem cloneItems_any (xs : List It) (oi : Option Addr) (ci : Nat) (hn : xs.length < 1048577) (w : World) (hc : HoldsItems w oi xs) :
    Calls Tryd.prog 167 #[.slice oi xs.length ci] w fun e w' => ∃ o' c', e = .returned (.slice o' xs.length c') ∧ w'.ownsRow w.heap.size 60 3 (.slice o' xs.length c') xs.length (itemCells xs) ∧ Below w.heap.size w w' := by
  cases oi with
  | none =>
    obtain rfl : xs = [] := by
      rcases hc with h | ⟨b, off, h, _⟩
      · exact h
      · cases h
    have hq := fun w' : World => Lib.run_eql_slice_nil (P := Tryd.prog) w' 67 60 none 0 ci 0 0 Tryd.underlying67
    go_enter Tryd.func167, Tryd.ntmps167
    go_wp2
    go_ret
    exact ⟨none, 0, rfl, World.ownsRow_nil _ _ _ _, Below.refl _ _⟩
  | some a =>
    have hb0 := (Below.refl w.heap.size w).alloc (Nat.le_refl _) (.cells #[] 60)
    have hown : (w.alloc (.cells #[] 60)).ownsRow w.heap.size 60 3 (.slice (some ⟨w.heap.size, 0, none⟩) 0 0) 0 [] := World.ownsRow_made w #[] 0 (Nat.le_refl _) (by unfold maxLen; omega) rfl
    have HC := Lib.hid (hc.below hb0 (Nat.le_refl _))
    have HB := Lib.hid hb0
    have HO := Lib.hid hown
    have hq := fun w' : World => Lib.run_eql_slice_nil (P := Tryd.prog) w' 67 60 (some a) xs.length ci 0 0 Tryd.underlying67
    clear hc hb0 hown
    go_enter Tryd.func167, Tryd.ntmps167
    go_wp2_with (at_builtin; refine wpList_append_items rfl _ _ rfl rfl HO.out (by simp) rfl HC.out (by omega) (by omega) ?_)
    intro v1 w1 hown1 hg1
    obtain ⟨o', c', rfl, -⟩ := holdsItems_of_owns (by simpa using hown1)
    have HB1 := Lib.hid (HB.out.trans (below_grown1 hg1 (by simp) (fun r e => by simp only [Value.ownBlock, Option.some.injEq] at e; omega)))
    have HOW := Lib.hid hown1
    clear hown1 hg1
    go_wp2
    go_ret
    exact ⟨o', c', rfl, by simpa using HOW.out, HB1.out⟩
set_option maxRecDepth 100000 in
set_option maxHeartbeats 1600000 in
theorem scopeClone_any (s : Sc) (oi : Option Addr) (ci : Nat) (hn : s.items.length < 1048577) (w : World) (hc : HoldsItems w oi s.items) :
    Calls Tryd.prog 141 #[.agg #[.int .i64 s.parent, .slice oi s.items.length ci]] w fun e w' => ∃ o' c', e = .returned (.agg #[.int .i64 s.parent, .slice o' s.items.length c']) ∧ w'.ownsRow w.heap.size 60 3 (.slice o' s.items.length c') s.items.length (itemCells s.items) ∧ Below w.heap.size w w' := by
  obtain ⟨p, xs⟩ := s
  dsimp only at hn hc ⊢
  have hb0 : Below w.heap.size w ((w.alloc (.cells #[.int .i64 p, .slice oi xs.length ci] 69)).alloc (.cells #[.int .i64 0, .slice none 0 0] 69)) := ((Below.refl _ _).alloc (Nat.le_refl _) _).alloc (by simp) _
  have R1 := (Row.new w [.int .i64 p, .slice oi xs.length ci] 69).alloc (.cells #[.int .i64 0, .slice none 0 0] 69)
  have R2 := Row.new (w.alloc (.cells #[.int .i64 p, .slice oi xs.length ci] 69)) [.int .i64 0, .slice none 0 0] 69
  rw [World.size_alloc] at R2
  have C := Lib.hid ((callsIn_wide (n := 5)).2 (cloneItems_any xs oi ci hn _ (hc.below (hb0.drew) (Nat.le_refl _))))
  have HB := Lib.hid hb0
  have HR2 := Lib.hid R2
  have s0 := cell_drew (R1.cell (i := 0) (by rfl))
  have s1 := cell_drew (R1.cell (i := 1) (by rfl))
  clear hc hb0 R1 R2
  go_enter Tryd.func141, Tryd.ntmps141
  go_wp2
  refine wp_region_kept (S := fun w' => w'.cell? ⟨w.heap.size, 0, none⟩ = some (.int .i64 p) ∧ w'.cell? ⟨w.heap.size, 1, none⟩ = some (.slice oi xs.length ci)) 20 (by kernel_rfl) ?_
  have hS0 := And.intro s0 s1
  refine KeptAny.take (i := 0) (v := ?_) (by kernel_rfl) rfl rfl (by kernel_rfl) (by kernel_rfl) (by kernel_rfl) (fun _ _ _ h => h) (by rfl) (fun w' hw' => ?_) (fun _ => rfl) hS0 ?_
  rotate_left
  · (obtain ⟨g0, g1⟩ := hw'; go_simp; try with_reducible rfl)
  refine KeptAny.take (i := 1) (v := ?_) (by kernel_rfl) rfl rfl (by kernel_rfl) (by kernel_rfl) (by kernel_rfl) (fun _ _ _ h => h) (by rfl) (fun w' hw' => ?_) (fun _ => rfl) hS0 ?_
  rotate_left
  · (obtain ⟨g0, g1⟩ := hw'; go_simp; try with_reducible rfl)
  refine KeptAny.take (i := 2) (v := ?_) (by kernel_rfl) rfl rfl (by kernel_rfl) (by kernel_rfl) (by kernel_rfl) (fun _ _ _ h => h) (by rfl) (fun w' hw' => ?_) (fun _ => rfl) hS0 ?_
  rotate_left
  · (obtain ⟨g0, g1⟩ := hw'; go_simp; try with_reducible rfl)
  refine KeptAny.take (i := 3) (v := ?_) (by kernel_rfl) rfl rfl (by kernel_rfl) (by kernel_rfl) (by kernel_rfl) (fun _ _ _ h => h) (by rfl) (fun w' hw' => ?_) (fun _ => rfl) hS0 ?_
  rotate_left
  · (obtain ⟨g0, g1⟩ := hw'; go_simp; try with_reducible rfl)
  refine KeptAny.one (i := 4) (by kernel_rfl) rfl (by rfl) (fun K hK => ?_)
  go_simp
  refine ⟨trivial, ?_⟩
  refine C.out.mono ?_
  rintro e w4 ⟨o', c', rfl, hown, hb4⟩
  have HO := Lib.hid hown
  have HB4 := Lib.hid (HB.out.drew.trans (hb4.mono HB.out.size))
  have HR4 := Lib.hid (HR2.out.drew.below hb4 HR2.out.drew.lt)
  have hS4 := And.intro (cell_grow hb4 hS0.1) (cell_grow hb4 hS0.2)
  have n0 := HR4.out.cell (i := 0) (v := .int .i64 0) (by rfl)
  have n1 := HR4.out.cell (i := 1) (v := .slice none 0 0) (by rfl)
  have f0 := HR4.out.frozen 0
  have f1 := HR4.out.frozen 1
  clear hown hb4 hS0 s0 s1
  refine hK.out _ _ hS4 (fun _ => ?_)
  clear hK
  refine KeptAny.take (i := 5) (v := ?_) (by kernel_rfl) rfl rfl (by kernel_rfl) (by kernel_rfl) (by kernel_rfl) (fun _ _ _ h => h) (by rfl) (fun w' hw' => ?_) (fun _ => rfl) hS4 ?_
  rotate_left
  · (obtain ⟨g0, g1⟩ := hw'; go_simp; try with_reducible rfl)
  have hT1 := HR4.out.set 0 (.int .i64 p)
  have hT := hT1.set 1 (.slice o' xs.length c')
  have m1 := hT1.cell (i := 1) (v := .slice none 0 0) (by rfl)
  have l1 := hT1.frozen 1
  have HT := Lib.hid hT
  have hne : w.heap.size ≠ w.heap.size + 1 := by omega
  have HS5 := Lib.hid (And.intro (((World.cell?_of_block (Below.heap_setCell _ _ _ _ (by show w.heap.size ≠ w.heap.size + 1; omega))).trans ((World.cell?_of_block (Below.heap_setCell _ _ _ _ (by show w.heap.size ≠ w.heap.size + 1; omega))).trans hS4.1) : ((w4.setCell ⟨w.heap.size + 1, 0, none⟩ (.int .i64 p)).setCell ⟨w.heap.size + 1, 1, none⟩ (.slice o' xs.length c')).cell? ⟨w.heap.size, 0, none⟩ = _)) (((World.cell?_of_block (Below.heap_setCell _ _ _ _ (by show w.heap.size ≠ w.heap.size + 1; omega))).trans ((World.cell?_of_block (Below.heap_setCell _ _ _ _ (by show w.heap.size ≠ w.heap.size + 1; omega))).trans hS4.2) : ((w4.setCell ⟨w.heap.size + 1, 0, none⟩ (.int .i64 p)).setCell ⟨w.heap.size + 1, 1, none⟩ (.slice o' xs.length c')).cell? ⟨w.heap.size, 1, none⟩ = _)))
  clear hT1 hT hS4
  refine KeptAny.one (i := 6) (by kernel_rfl) rfl (by rfl) (fun K hK => ?_)
  go_simp
  refine hK.out _ _ HS5.out (fun _ => ?_)
  clear hK
  refine KeptAny.done (by kernel_rfl) ?_ _
  have d0 := HT.out.cell (i := 0) (v := .int .i64 p) (by rfl)
  have d1 := HT.out.cell (i := 1) (v := .slice o' xs.length c') (by rfl)
  clear n0 n1 m1 f0 f1 l1
  go_wp2
  refine bodyPost_ret (v := .agg #[.int .i64 p, .slice o' xs.length c']) (by simp [results, Tryd.results141, go_sem, d0, d1]) rfl ⟨o', c', rfl, ?_, ?_⟩
  · exact ((ownsRow_setFar (ownsRow_setFar HO.out (by simp) _) (by simp) _)).mono (by simp; omega)
  · exact (HB4.out.setCell (by simp) _).setCell (by simp) _
set_option maxRecDepth 100000 in
set_option maxHeartbeats 4000000 in
theorem implClone_any (ss : List Sc) (oa : Option Addr) (cap : Nat) (hn : ss.length ≤ 1048576) (hn2 : ∀ s ∈ ss, s.items.length < 1048577) (w : World) (hc : HoldsScopes w oa ss) :
    Calls Tryd.prog 93 #[.agg #[.slice oa ss.length cap]] w fun e w' => ∃ v hs, e = .returned (.agg #[v]) ∧ OwnGr w' w.heap.size v ss hs ∧ Below w.heap.size w w' := by
  have hb0 : Below w.heap.size w ((w.alloc (.cells #[.slice oa ss.length cap] 30)).alloc (.cells #[.slice none 0 0] 30)) := ((Below.refl _ _).alloc (Nat.le_refl _) _).alloc (by simp) _
  have HR1 := Lib.hid ((Row.new w [.slice oa ss.length cap] 30).alloc (.cells #[.slice none 0 0] 30))
  have R2 := Row.new (w.alloc (.cells #[.slice oa ss.length cap] 30)) [.slice none 0 0] 30
  rw [World.size_alloc] at R2
  have HR2 := Lib.hid R2
  have HB := Lib.hid hb0
  have HC := Lib.hid hc
  have HN2 := Lib.hid hn2
  obtain ⟨i0, hi0, hz0, hz1, hz2⟩ := info_parts infoScope
  clear hc hn2 hb0 R2
  go_enter Tryd.func93, Tryd.ntmps93
  go_wp2_with (at_make; refine wpList_make_own _ rfl _ _ 28 rfl (w.heap.size + 1 + 1) 69 i0 _ 2 Tryd.underlying28 hi0 hz0 hz1 .i64 .i64 _ ss.length rfl rfl rfl (by rw [hz2]; omega) (by unfold maxLen; omega) (by simp) ?_; intro w1 hown1 hg1; have c1 := (HR1.out.grown hg1 (by simp)).cell (i := 0) (v := .slice oa ss.length cap) (by rfl); simp only [World.size_alloc] at hown1 ⊢)
  have hb1 : Below (w.heap.size + 1 + 1) _ w1 := below_grown1 hg1 (by simp) (fun r e => by cases e)
  have HB1 := Lib.hid (HB.out.trans (hb1.mono (by omega)))
  have HR1a := Lib.hid (HR1.out.below hb1 (by omega))
  have HR2a := Lib.hid (HR2.out.below hb1 (by omega))
  have HG0 : Hid (OwnGr w1 w.heap.size (.slice (some ⟨w.heap.size + 1 + 1, 0, none⟩) 0 ss.length) [] []) := Lib.hid ⟨rfl, hown1.mono (show w.heap.size ≤ w.heap.size + 1 + 1 by omega), by simp, by simp⟩
  clear hown1 hg1 hb1
  go_loopw [3, 13] (fun v i wr => ∃ (k : Nat) (hs : List Value), i = .int .i64 k ∧ k ≤ ss.length ∧ Hid (OwnGr wr w.heap.size v (ss.take k) hs ∧ Below w.heap.size w wr ∧ Row wr (w.heap.size + 1) 30 [.slice none 0 0])) (fun _ i _ => ss.length - (intOf i).toNat)
  case atStart => exact ⟨0, [], rfl, Nat.zero_le _, Lib.hid ⟨HG0.out, HB1.out, HR2a.out⟩⟩
  case round =>
    obtain ⟨k, hs, rfl, hk, hP⟩ := hrel
    by_cases hlt : k < ss.length
    · obtain ⟨s, hs'⟩ : ∃ s, ss[k]? = some s := ⟨_, List.getElem?_eq_getElem hlt⟩
      obtain ⟨b1, f1, rfl, hb1, hcell⟩ := HC.out.at (by omega)
      obtain ⟨oi, ci, x0, x1, hIt⟩ := hcell k s hs'
      have y0 := (hP.out.2.1.cell (p := ⟨b1, _, none⟩) hb1).trans x0
      have y1 := (hP.out.2.1.cell (p := ⟨b1, _, none⟩) hb1).trans x1
      have hbA := (Below.refl wr.heap.size wr).alloc (Nat.le_refl _) (.cells #[.int .i64 s.parent, .slice oi s.items.length ci] 69)
      have HIA := Lib.hid (hIt.below (hP.out.2.1.trans (hbA.mono hP.out.2.1.size)) (Nat.le_refl _))
      have HBA := Lib.hid (hP.out.2.1.trans (hbA.mono hP.out.2.1.size))
      have HGA := Lib.hid (hP.out.1.below hbA)
      have HRA := Lib.hid (hP.out.2.2.below hbA hP.out.2.2.lt)
      have C := Lib.hid (scopeClone_any s oi ci (HN2.out s (List.mem_of_getElem? hs')) _ HIA.out)
      have RS := Lib.hid (Row.new wr [.int .i64 s.parent, .slice oi s.items.length ci] 69)
      have z0 := RS.out.cell (i := 0) (by rfl)
      have z1 := RS.out.cell (i := 1) (by rfl)
      have HTK : Hid (ss.take (k + 1) = ss.take k ++ [s]) := Lib.hid (by rw [List.take_add_one, hs']; rfl)
      have hkl : (ss.take k).length = k := by rw [List.length_take]; omega
      have HKL := Lib.hid hkl
      have hbz := hP.out.2.1.size
      clear hs' hcell x0 x1 hIt hbA hkl
      go_wp2_with fail
      refine C.out.mono ?_
      rintro e w2 ⟨o', c', rfl, hown2, hb2⟩
      have HB2 := Lib.hid (HBA.out.trans (hb2.mono HBA.out.size))
      have HG2 := Lib.hid (HGA.out.below hb2)
      have HU2 := Lib.hid hown2
      have HRb := Lib.hid (HRA.out.below hb2 HRA.out.lt)
      have hrow := HG2.out.row
      rw [HKL.out] at hrow
      have HROW := Lib.hid hrow
      have hbs2 := HB2.out.size
      have hz3 : w.heap.size ≤ (wr.alloc (.cells #[.int .i64 s.parent, .slice oi s.items.length ci] 69)).heap.size := HBA.out.size
      clear hown2 hb2 hrow y0 y1 z0 z1
      go_wp2_with (at_builtin; refine wpList_append_own _ rfl _ _ 28 rfl w.heap.size 69 i0 _ 2 32 Tryd.underlying28 hi0 hz0 hz1 hz2 rfl (by decide) _ _ _ rfl (HROW.out.alloc _) ⟨w2.heap.size, 0, none⟩ 1 1 [.int .i64 s.parent, .slice o' s.items.length c'] rfl rfl ?c1 ?c2 ?c3 ?c4 ?c5 ?_)
      case c1 => exact cells_new2 _ _ _ _
      case c2 => intro u hu; simp only [List.mem_cons, List.not_mem_nil, or_false] at hu; rcases hu with rfl | rfl <;> rfl
      case c3 => unfold maxLen; omega
      case c4 => omega
      case c5 => simp only [World.size_alloc]; omega
      intro v' w3 hown3 hgrow _
      have HG3 : Hid (OwnGr w3 w.heap.size v' (ss.take (k + 1)) (hs ++ [.slice o' s.items.length c'])) := Lib.hid (by
        rw [HTK.out]
        refine OwnGr.snoc (p := s.parent) (xs := s.items) HGA.out HG2.out HU2.out hz3 hgrow ?_
        rw [HKL.out]
        exact hown3)
      have HB3 := Lib.hid (HB2.out.trans (((Below.refl w.heap.size w2).alloc hbs2 (.cells #[.int .i64 s.parent, .slice o' s.items.length c'] 69)).trans (below_grown1 hgrow (by simp; omega) (fun r e => (HROW.out.lt r e).1))))
      have HRc := Lib.hid ((HRb.out.alloc (.cells #[.int .i64 s.parent, .slice o' s.items.length c'] 69)).grown hgrow (ownsRow_ne2 HRb.out (by decide) HROW.out))
      clear hown3 hgrow
      go_wp2
      go_roundw
      case rel => exact ⟨k + 1, _, by go_num, by omega, Lib.hid ⟨HG3.out, HB3.out, HRc.out⟩⟩
      case measure => simp only [intOf]; omega
    · obtain rfl : k = ss.length := by omega
      have HG : Hid (OwnGr wr w.heap.size _ ss hs) := Lib.hid (by have := hP.out.1; rwa [List.take_length] at this)
      obtain ⟨ov, cv, rfl, -⟩ := HG.out.holds
      have n0 := hP.out.2.2.cell (i := 0) (v := .slice none 0 0) (by rfl)
      have f0 := hP.out.2.2.frozen 0
      have HT := Lib.hid (hP.out.2.2.set 0 (.slice ov ss.length cv))
      have hlt2 : w.heap.size + 1 < wr.heap.size := hP.out.2.2.lt
      have HGT : Hid (OwnGr (wr.setCell ⟨w.heap.size + 1, 0, none⟩ (.slice ov ss.length cv)) w.heap.size (.slice ov ss.length cv) ss hs) := Lib.hid (by
        refine ⟨HG.out.len, ownsRow_otherN HG.out.row hP.out.2.2 (by decide) 0 _, fun i s u h1 h2 => ownsRow_otherN (HG.out.items i s u h1 h2) hP.out.2.2 (by decide) 0 _, HG.out.apart⟩)
      go_wp2
      have d0 := HT.out.cell (i := 0) (v := .slice ov ss.length cv) (by rfl)
      refine bodyPost_ret (v := .agg #[.slice ov ss.length cv]) (by simp [results, Tryd.results93, go_sem, d0]) rfl ⟨_, hs, rfl, HGT.out, hP.out.2.1.setCell (by simp) _⟩
end Go.Proofs.YtppgdigcopkeiaaDoor
namespace Go.Proofs.YtppgdigcopkeiaaDoor
open Go Go.RowKit
theorem itemCells_cons (x : It) (r : List It) : itemCells (x :: r) = .int .i64 x.kind :: .string x.name :: .int .i64 x.scope :: itemCells r := rfl
theorem itemCells_take : ∀ (xs : List It) (b : Nat), itemCells (xs.take b) = (itemCells xs).take (b * 3)
  | [], b => by simp [itemCells]
  | x :: r, 0 => by simp [itemCells]
  | x :: r, b + 1 => by
    have h := itemCells_take r b
    rw [show (b + 1) * 3 = b * 3 + 1 + 1 + 1 by omega, List.take_succ_cons, itemCells_cons, itemCells_cons, List.take_succ_cons, List.take_succ_cons, List.take_succ_cons, h]
theorem itemCells_drop : ∀ (xs : List It) (b : Nat), itemCells (xs.drop b) = (itemCells xs).drop (b * 3)
  | [], b => by simp [itemCells]
  | x :: r, 0 => by simp
  | x :: r, b + 1 => by
    have h := itemCells_drop r b
    rw [show (b + 1) * 3 = b * 3 + 1 + 1 + 1 by omega, List.drop_succ_cons, itemCells_cons, List.drop_succ_cons, List.drop_succ_cons, List.drop_succ_cons, h]
theorem itemCells_append (xs ys : List It) : itemCells (xs ++ ys) = itemCells xs ++ itemCells ys := by simp [itemCells]
theorem itemCells_one (xs : List It) : ∀ u ∈ itemCells xs, u.oneCell' = true := by
  intro u hu
  unfold itemCells at hu
  obtain ⟨x, _, hx⟩ := List.mem_flatMap.1 hu
  simp only [List.mem_cons, List.not_mem_nil, or_false] at hx
  rcases hx with rfl | rfl | rfl <;> rfl
theorem itemCells_erase (xs : List It) (b : Nat) : itemCells (xs.eraseIdx b) = (itemCells xs).take (b * 3) ++ (itemCells xs).drop ((b + 1) * 3) := by
  rw [List.eraseIdx_eq_take_drop_succ, itemCells_append, itemCells_take, itemCells_drop]
set_option maxRecDepth 100000 in
set_option maxHeartbeats 4000000 in
theorem delete_any (g cap n b B : Nat) (xs : List It) (_hl : xs.length = n + 1) (hb : b ≤ n) (w : World) (h : w.ownsRow B 60 3 (.slice (some ⟨g, 0, none⟩) (n + 1) cap) (n + 1) (itemCells xs)) :
    Calls Tryd.prog 129 #[.slice (some ⟨g, 0, none⟩) (n + 1) cap, .int .i64 (b : Int), .int .i64 ((b : Int) + 1)] w fun e w' => e = .returned (.slice (some ⟨g, 0, none⟩) n cap) ∧ w'.ownsRow B 60 3 (.slice (some ⟨g, 0, none⟩) n cap) n (itemCells (xs.eraseIdx b)) ∧ w.grownBy w' (some g) := by
  obtain ⟨hlen, ⟨h0, _⟩ | ⟨g', cap', cur, hv, hB, hh, hnc, hcm, hs, ht⟩⟩ := h
  · simp at h0
  simp only [Value.slice.injEq, Option.some.injEq, Addr.mk.injEq] at hv
  obtain ⟨⟨rfl, -, -⟩, -, rfl⟩ := hv
  obtain ⟨i0, hi0, hz0, hz1, hz2⟩ := info_parts infoItem
  have hcl : (itemCells xs).length = (n + 1) * 3 := hlen
  -- what is moved
  obtain ⟨news, hnews⟩ : ∃ news, news = (itemCells xs).drop ((b + 1) * 3) := ⟨_, rfl⟩
  have hnl : news.length = (n - b) * 3 := by rw [hnews, List.length_drop, hcl]; omega
  have hget : ∀ j u, news[j]? = some u → w.drew.cell? ⟨g, (b + 1) * 3 + j, none⟩ = some u := fun j u hu => by
    rw [hnews, List.getElem?_drop, ← ht, List.getElem?_take] at hu
    split at hu
    · rw [Array.getElem?_toList] at hu
      show w.cell? _ = _
      simp only [World.cell?, hh]
      exact hu
    · cases hu
  have hmc : cap ≤ 9223372036854775807 := by unfold maxLen at hcm; omega
  obtain ⟨A, hA, hsrc⟩ : ∃ A : Addr, (if cap = b + 1 then some (⟨g, 0, none⟩ : Addr) else some ⟨g, (b + 1) * 3, none⟩) = some A ∧ Hid (∀ j u, news[j]? = some u → w.drew.cell? (A.add j) = some u) := by
    by_cases hc : cap = b + 1
    · refine ⟨⟨g, 0, none⟩, by simp [hc], Lib.hid fun j u hu => ?_⟩
      have h0 : news.length = 0 := by rw [hnl]; omega
      rw [List.length_eq_zero_iff.1 h0] at hu
      simp at hu
    · refine ⟨⟨g, (b + 1) * 3, none⟩, by simp [hc], Lib.hid fun j u hu => ?_⟩
      rw [Addr.add_lit]
      exact hget j u hu
  have hone : ∀ u ∈ news, u.oneCell' = true := fun u hu => itemCells_one xs u (by rw [hnews] at hu; exact List.mem_of_mem_drop hu)
  have hrun := run_append_room (P := Tryd.prog) w.drew 67 67 60 i0 Tryd.underlying67 hi0 g b cap cur hh A (n - b) (cap - (b + 1)) news (by rw [hz1]; exact hnl) hsrc.out hone (by omega) (by rw [hz1, hnl, hs]; have : (b + (n - b)) * 3 ≤ cap * 3 := Nat.mul_le_mul_right 3 (by omega); omega)
  -- the world behind the append, and behind the clear
  have hcur : cur.size = cap * 3 := hs
  obtain ⟨c1, hc1⟩ : ∃ c1 : Array Value, c1 = (cur.toList.take (b * i0.size) ++ news ++ cur.toList.drop (b * i0.size + news.length)).toArray := ⟨_, rfl⟩
  rw [← hc1] at hrun
  have hc1l : c1.toList = cur.toList.take (b * 3) ++ news ++ cur.toList.drop (b * 3 + news.length) := by rw [hc1, hz1]
  have hcn : (b + (n - b)) = n := by omega
  rw [hcn] at hrun
  have hsz1 : c1.size = cap * 3 := by
    rw [← Array.length_toList, hc1l]
    have : b * 3 + news.length ≤ cap * 3 := by rw [hnl]; have : (b + (n - b)) * 3 ≤ cap * 3 := Nat.mul_le_mul_right 3 (by omega); omega
    simp only [List.length_append, List.length_take, List.length_drop, Array.length_toList, hcur]
    omega
  have hW1 : (w.drew.setRow g c1).heap[g]? = some (.cells c1 60 (0, 0)) := setRow_heap w.drew g cur c1 _ _ hh
  have hle : (n + 1) * 3 ≤ cap * 3 := Nat.mul_le_mul_right 3 hnc
  have hst := run_storeCells_at (P := Tryd.prog) g (n * 3) 60 [Value.int .i64 0, Value.string ⟨#[]⟩, Value.int .i64 0] 0 c1 (w.drew.setRow g c1) hW1 (by rw [hsz1]; simp; omega) (by intro u hu; simp only [List.mem_cons, List.not_mem_nil, or_false] at hu; rcases hu with rfl | rfl | rfl <;> rfl)
  simp only [Nat.add_zero, List.length_cons, List.length_nil] at hst
  obtain ⟨c2, hc2⟩ : ∃ c2 : Array Value, c2 = (c1.toList.take (n * 3) ++ [Value.int .i64 0, Value.string ⟨#[]⟩, Value.int .i64 0] ++ c1.toList.drop (n * 3 + (0 + 1 + 1 + 1))).toArray := ⟨_, rfl⟩
  rw [← hc2] at hst
  have hclear : ∀ (ty : TypeId) (c : Nat), (Builtin.clear_ #[67] ty #[.slice (some ⟨g, n * 3, none⟩) 1 c]).run Tryd.prog (w.drew.setRow g c1) = .ok (.tuple #[]) ((w.drew.setRow g c1).setRow g c2) := fun ty c => by
    have hz : ∀ W : World, (zeroValue 60).run Tryd.prog W = .ok (.agg #[.int .i64 0, .string ⟨#[]⟩, .int .i64 0]) W := fun W => by kernel_rfl
    have hzc : (Builtin.zeroCells (Value.agg #[.int .i64 0, .string ⟨#[]⟩, .int .i64 0]).cells 1).toList = [Value.int .i64 0, Value.string ⟨#[]⟩, Value.int .i64 0] := by kernel_rfl
    simp [Builtin.clear_, run_underlying Tryd.underlying67, hz, hzc, hst]
  have HEND : Hid (((w.drew.setRow g c1).setRow g c2).ownsRow B 60 3 (.slice (some ⟨g, 0, none⟩) n cap) n (itemCells (xs.eraseIdx b)) ∧ w.grownBy ((w.drew.setRow g c1).setRow g c2) (some g)) := Lib.hid (by
    have hW2 : ((w.drew.setRow g c1).setRow g c2).heap[g]? = some (.cells c2 60 (0, 0)) := setRow_heap _ g c1 c2 _ _ hW1
    have hc2l : c2.toList = c1.toList.take (n * 3) ++ [Value.int .i64 0, Value.string ⟨#[]⟩, Value.int .i64 0] ++ c1.toList.drop (n * 3 + 3) := by rw [hc2]
    have hnn : (n - b) * 3 + b * 3 = n * 3 := by rw [← Nat.add_mul]; congr 1; omega
    have hbn : b * 3 ≤ n * 3 := Nat.mul_le_mul_right 3 hb
    have e1 : (itemCells xs).take (b * 3) = cur.toList.take (b * 3) := by rw [← ht, List.take_take, Nat.min_eq_left (by omega)]
    have e2 : (cur.toList.take (b * 3) ++ news).length = n * 3 := by simp only [List.length_append, List.length_take, Array.length_toList, hcur, hnl]; omega
    have hel : itemCells (xs.eraseIdx b) = c1.toList.take (n * 3) := by rw [itemCells_erase, e1, ← hnews, hc1l, ← e2, List.take_left]
    refine ⟨⟨?_, .inr ⟨g, cap, c2, rfl, hB, hW2, by omega, hcm, ?_, ?_⟩⟩, ⟨rfl, rfl, rfl, by simp, fun k hk hne => ?_⟩⟩
    · rw [hel, List.length_take, Array.length_toList, hsz1]; omega
    · rw [← Array.length_toList, hc2l]
      simp only [List.length_append, List.length_take, List.length_drop, Array.length_toList, hsz1, List.length_cons, List.length_nil]
      omega
    · rw [hel, hc2l, List.append_assoc, List.take_append_of_le_length (by rw [List.length_take, Array.length_toList, hsz1]; omega), List.take_take, Nat.min_self]
    · have h1 : k ≠ g := fun e => hne (by rw [e])
      rw [setRow_other _ _ _ _ h1, setRow_other _ _ _ _ h1]
      rfl)
  have hne : ((b : Int) == ((b + 1 : Nat) : Int)) = false := by simp; omega
  have hb1 : (b : Int) ≤ (n : Int) + 1 := by omega
  have hbc : b ≤ cap := by omega
  have hb0 : (0 : Int) ≤ (b : Int) + 1 := by omega
  have hnn1 : n + 1 - n = 1 := by omega
  have hnc2 : n ≤ cap := by omega
  have hnc3 : ¬ cap = n := by omega
  clear hlen ht hcl hnews hnl hget hsrc hone hc1 hc1l hsz1 hW1 hcur hst hc2 hle
  go_enter Tryd.func129, Tryd.ntmps129
  go_wp2
  simp [go_sem, hcn, hnc2] at hrun
  refine wp_region_kept (S := fun _ => True) 20 (by kernel_rfl) ?_
  have hS0 : True := trivial
  refine KeptAny.take (i := 0) (v := ?_) (by kernel_rfl) rfl rfl (by kernel_rfl) (by kernel_rfl) (by kernel_rfl) (fun _ _ _ h => h) (by rfl) (fun w' hw' => ?_) (fun _ => rfl) hS0 ?_
  rotate_left
  · (go_simp; try with_reducible rfl)
  refine KeptAny.take (i := 1) (v := ?_) (by kernel_rfl) rfl rfl (by kernel_rfl) (by kernel_rfl) (by kernel_rfl) (fun _ _ _ h => h) (by rfl) (fun w' hw' => ?_) (fun _ => rfl) hS0 ?_
  rotate_left
  · (go_simp; try with_reducible rfl)
  refine KeptAny.take (i := 2) (v := ?_) (by kernel_rfl) rfl rfl (by kernel_rfl) (by kernel_rfl) (by kernel_rfl) (fun _ _ _ h => h) (by rfl) (fun w' hw' => ?_) (fun _ => rfl) hS0 ?_
  rotate_left
  · (go_simp; try with_reducible rfl)
  refine KeptAny.take (i := 3) (v := ?_) (by kernel_rfl) rfl rfl (by kernel_rfl) (by kernel_rfl) (by kernel_rfl) (fun _ _ _ h => h) (by rfl) (fun w' hw' => ?_) (fun _ => rfl) hS0 ?_
  rotate_left
  · (go_simp; try with_reducible rfl)
  refine KeptAny.take (i := 4) (v := ?_) (by kernel_rfl) rfl rfl (by kernel_rfl) (by kernel_rfl) (by kernel_rfl) (fun _ _ _ h => h) (by rfl) (fun w' hw' => ?_) (fun _ => rfl) hS0 ?_
  rotate_left
  · (go_simp; try with_reducible rfl)
  refine KeptAny.take (i := 5) (v := ?_) (by kernel_rfl) rfl rfl (by kernel_rfl) (by kernel_rfl) (by kernel_rfl) (fun _ _ _ h => h) (by rfl) (fun w' hw' => ?_) (fun _ => rfl) hS0 ?_
  rotate_left
  · (go_simp; try with_reducible rfl)
  refine KeptAny.one (i := 6) (by kernel_rfl) rfl (by rfl) (fun K hK => ?_)
  go_simp
  refine hK.out _ _ trivial (fun _ => ?_)
  clear hK
  refine KeptAny.one (i := 7) (by kernel_rfl) rfl (by rfl) (fun K hK => ?_)
  go_simp
  refine hK.out _ _ trivial (fun _ => ?_)
  clear hK
  refine KeptAny.done (by kernel_rfl) ?_ _
  go_wp2
  go_ret
  exact ⟨rfl, HEND.out⟩
end Go.Proofs.YtppgdigcopkeiaaDoor
namespace Go.Proofs.YtppgdigcopkeiaaDoor
open Go Go.RowKit
theorem scRow_rmv : ∀ {ss : List Sc} {hs : List Value} (i j : Nat) (u : Value), hs.length = ss.length → i < ss.length → scRow (rmvP ss i j) (hs.set i u) = (scRow ss hs).set (i * 2 + 1) u
  | [], _, i, _, _, _, h => absurd h (Nat.not_lt_zero i)
  | s :: r, v :: q, 0, j, u, _, _ => rfl
  | s :: r, v :: q, i + 1, j, u, h, hi => by
    have h1 := scRow_rmv (ss := r) (hs := q) i j u (by simpa using h) (by simpa using hi)
    rw [show (i + 1) * 2 + 1 = i * 2 + 1 + 1 + 1 by omega]
    show Value.int .i64 s.parent :: v :: scRow (rmvP r i j) (q.set i u) = _
    rw [h1]
    rfl
theorem ownsRow_row {w : World} {B g n cap size : Nat} {e : TypeId} {xs : List Value} (h : w.ownsRow B e size (.slice (some ⟨g, 0, none⟩) n cap) n xs) : ∃ vs, Row w g e vs := by
  obtain ⟨_, h2 | ⟨g', c, cur, hv, _, hh, _⟩⟩ := h
  · have := h2.1
    simp at this
  · simp only [Value.slice.injEq, Option.some.injEq, Addr.mk.injEq] at hv
    obtain ⟨⟨rfl, -, -⟩, -, -⟩ := hv
    exact ⟨cur.toList, by unfold Row; rw [hh]⟩
/-- A graph of the call's own, when the items of one scope have turned where they lay. -/
theorem OwnGr.rmv {w w1 : World} {B g cap i j : Nat} {ss : List Sc} {hs : List Value} {s : Sc} {u u' : Value} (h : OwnGr w B (.slice (some ⟨g, 0, none⟩) ss.length cap) ss hs) (hs' : ss[i]? = some s) (hu : hs[i]? = some u)
    (hg : w.grownBy w1 u.ownBlock) (hb : u'.ownBlock = u.ownBlock) (hown : w1.ownsRow B 60 3 u' (s.items.eraseIdx j).length (itemCells (s.items.eraseIdx j))) :
    OwnGr (w1.setCell ⟨g, i * 2 + 1, none⟩ u') B (.slice (some ⟨g, 0, none⟩) ss.length cap) (rmvP ss i j) (hs.set i u') := by
  have hil := (List.getElem?_eq_some_iff.1 hs').1
  have hrow1 := ownsRow_apart h.row hg (owns_types_apart h.row (h.items i s u hs' hu) (by decide))
  obtain ⟨vs, hR⟩ := ownsRow_row hrow1
  have hat : ∀ (k : Nat) (z : Value), (hs.set i u')[k]? = some z → (k = i ∧ z = u') ∨ (k ≠ i ∧ hs[k]? = some z) := fun k z hz => by
    by_cases hk : k = i
    · subst hk
      rw [List.getElem?_set_self (List.getElem?_eq_some_iff.1 hu).1] at hz
      exact .inl ⟨rfl, (Option.some.inj hz).symm⟩
    · rw [List.getElem?_set_ne (fun e => hk e.symm)] at hz
      exact .inr ⟨hk, hz⟩
  refine ⟨by rw [List.length_set, rmvP_length]; exact h.len, ?_, fun k t z ht hz => ?_, fun a b z z' hab hz hz' => ?_⟩
  · rw [rmvP_length, scRow_rmv i j u' h.len hil]
    exact ownsRow_set hrow1 (by rw [scRow_length h.len]; omega) u'
  · rcases hat k z hz with ⟨rfl, rfl⟩ | ⟨hk, hz2⟩
    · rw [rmvP_same hs'] at ht
      obtain rfl := Option.some.inj ht
      exact ownsRow_otherN hown hR (by decide) _ _
    · rw [rmvP_other hk] at ht
      exact ownsRow_otherN (ownsRow_apart (h.items k t z ht hz2) hg (h.apart k i z u hk hz2 hu)) hR (by decide) _ _
  · rcases hat a z hz with ⟨rfl, rfl⟩ | ⟨ha, hz2⟩ <;> rcases hat b z' hz' with ⟨rfl, rfl⟩ | ⟨hb2, hz3⟩
    · exact absurd rfl hab
    · rw [hb]; exact h.apart a b u z' hab hu hz3
    · rw [hb]; exact h.apart a b z u hab hz2 hu
    · exact h.apart a b z z' hab hz2 hz3
theorem cell_grownBy {w w' : World} {r : Option Nat} {b o : Nat} {v : Value} (hg : w.grownBy w' r) (hne : some b ≠ r) (h : w.cell? ⟨b, o, none⟩ = some v) : w'.cell? ⟨b, o, none⟩ = some v := hg.cell h hne
set_option maxRecDepth 100000 in
set_option maxHeartbeats 4000000 in
theorem without_any (ss : List Sc) (hF : Fair ss) (oa : Option Addr) (cap i j : Nat) (s : Sc) (x : It) (hs' : ss[i]? = some s) (hx : s.items[j]? = some x) (w : World) (hc : HoldsScopes w oa ss) :
    Calls Tryd.prog 77 #[.agg #[.slice oa ss.length cap], .agg #[.int .i64 (i : Int), .int .i64 (j : Int)]] w fun e w' => ∃ v hs, e = .returned (.agg #[v]) ∧ OwnGr w' w.heap.size v (rmvP ss i j) hs ∧ Below w.heap.size w w' := by
  have hb0 : Below w.heap.size w (((w.alloc (.cells #[.slice oa ss.length cap] 30)).alloc (.cells #[.int .i64 (i : Int), .int .i64 (j : Int)] 34)).alloc (.cells #[.slice none 0 0] 30)) := (((Below.refl _ _).alloc (Nat.le_refl _) _).alloc (by simp) _).alloc (by simp; omega) _
  have R1 := ((Row.new w [.slice oa ss.length cap] 30).alloc (.cells #[.int .i64 (i : Int), .int .i64 (j : Int)] 34)).alloc (.cells #[.slice none 0 0] 30)
  have R2 := (Row.new (w.alloc (.cells #[.slice oa ss.length cap] 30)) [.int .i64 (i : Int), .int .i64 (j : Int)] 34).alloc (.cells #[.slice none 0 0] 30)
  have R3 := Row.new ((w.alloc (.cells #[.slice oa ss.length cap] 30)).alloc (.cells #[.int .i64 (i : Int), .int .i64 (j : Int)] 34)) [.slice none 0 0] 30
  rw [World.size_alloc] at R2
  rw [World.size_alloc, World.size_alloc] at R3
  have C := Lib.hid (implClone_any ss oa cap hF.count (fun t ht => by have := hF.items t ht; omega) _ (hc.below hb0 (Nat.le_refl _)))
  have HB := Lib.hid hb0
  have HR2 := Lib.hid R2
  have HR3 := Lib.hid R3
  have hil := (List.getElem?_eq_some_iff.1 hs').1
  have hjl := (List.getElem?_eq_some_iff.1 hx).1
  have hsl := hF.count
  have hml := hF.items s (List.mem_of_getElem? hs')
  have HS := Lib.hid hs'
  have g1 := R1.cell (i := 0) (by rfl)
  clear hF hc hb0 R1 R2 R3 hs' hx
  go_enter Tryd.func77, Tryd.ntmps77
  go_wp2_with fail
  refine C.out.mono ?_
  rintro e w1 ⟨v, hs, rfl, hO, hb1⟩
  obtain ⟨u, hu⟩ : ∃ u, hs[i]? = some u := ⟨_, List.getElem?_eq_getElem (by rw [hO.len]; exact hil)⟩
  obtain ⟨gs, cs, rfl, hgB, hgl, hcells⟩ : ∃ gs cs, v = .slice (some ⟨gs, 0, none⟩) ss.length cs ∧ _ ≤ gs ∧ gs < w1.heap.size ∧ w1.cell? ⟨gs, i * 2 + 1, none⟩ = some u := by
    have h1 := hO.row
    have hlt := h1.lt
    have hcc := fun g hg => h1.cells (g := g) hg
    obtain ⟨hl, h2 | ⟨g, c, cur, hv, hB, hh, _⟩⟩ := h1
    · have := h2.2; omega
    · subst hv
      have h3 := hcc g rfl _ _ (scRow_at HS.out hu).2
      rw [Addr.add_lit, Nat.zero_add] at h3
      exact ⟨g, c, rfl, hB, (hlt g rfl).2, h3⟩
  have hown := hO.items i s u HS.out hu
  obtain ⟨gi, ci, rfl, hgi⟩ : ∃ gi ci, u = .slice (some ⟨gi, 0, none⟩) s.items.length ci ∧ _ ≤ gi := by
    obtain ⟨hl, h2 | ⟨g, c, cur, hv, hB, hh, _⟩⟩ := hown
    · have := h2.2; omega
    · exact ⟨g, c, hv, hB⟩
  have hgl2 : gi < w1.heap.size := (hown.lt gi rfl).2
  have hsz0 : (((w.alloc (.cells #[.slice oa ss.length cap] 30)).alloc (.cells #[.int .i64 (i : Int), .int .i64 (j : Int)] 34)).alloc (.cells #[.slice none 0 0] 30)).heap.size = w.heap.size + 3 := by simp
  have hgB' : w.heap.size + 3 ≤ gs := hsz0 ▸ hgB
  have hgi' : w.heap.size + 3 ≤ gi := hsz0 ▸ hgi
  have hbA := (Below.refl w1.heap.size w1).alloc (Nat.le_refl _) (.cells #[.slice (some ⟨gs, 0, none⟩) ss.length cs] 30)
  have HB1 := Lib.hid (HB.out.trans ((hb1.trans (hbA.mono hb1.size)).mono HB.out.size))
  have HO := Lib.hid (hO.below hbA)
  have HR2a := Lib.hid (HR2.out.below (hb1.trans (hbA.mono hb1.size)) HR2.out.lt)
  have HR3a := Lib.hid (HR3.out.below (hb1.trans (hbA.mono hb1.size)) HR3.out.lt)
  have RH := Lib.hid (Row.new w1 [.slice (some ⟨gs, 0, none⟩) ss.length cs] 30)
  have HU := Lib.hid hu
  obtain ⟨n, hn⟩ : ∃ n, s.items.length = n + 1 := ⟨s.items.length - 1, by omega⟩
  have k1 := cell_drew (HR2a.out.cell (i := 1) (v := .int .i64 (j : Int)) (by rfl))
  have k0 := HR2a.out.cell (i := 0) (v := .int .i64 (i : Int)) (by rfl)
  have u1 := cell_drew (cell_grow hbA hcells)
  have hh0 := RH.out.cell (i := 0) (v := .slice (some ⟨gs, 0, none⟩) ss.length cs) (by rfl)
  have hOW : (w1.alloc (.cells #[.slice (some ⟨gs, 0, none⟩) ss.length cs] 30)).drew.ownsRow (w.heap.size + 3) 60 3 (.slice (some ⟨gi, 0, none⟩) (n + 1) ci) (n + 1) (itemCells s.items) := by
    have h1 := HO.out.items i s _ HS.out hu
    rw [hn, hsz0] at h1
    exact ownsRow_below h1 ((Below.refl _ _).drew)
  have D := Lib.hid ((callsIn_wide (n := 5)).2 (delete_any gi ci n j (w.heap.size + 3) s.items hn (by omega) _ hOW))
  rw [hn] at u1
  have hi0 : (0 : Int) ≤ (i : Int) := by omega
  have hjw : IntKind.i64.wrap ((j : Int) + 1) = (j : Int) + 1 := IntWalk.i64_in _ (by omega)
  have hi1 : (i : Int) < (ss.length : Int) := by omega
  have HN := Lib.hid hn
  have HJ := Lib.hid hjl
  have HLT := Lib.hid (And.intro hgl (And.intro hgl2 (And.intro hgB' (And.intro hgi' hsz0))))
  clear hO hb1 hu hcells hown hbA hOW hgB hgi hgl hgl2 g1 hjl hn hgB' hgi' hsz0
  go_wp2
  refine wp_region_kept (S := fun w' => w'.cell? ⟨gs, i * 2 + 1, none⟩ = some (.slice (some ⟨gi, 0, none⟩) (n + 1) ci) ∧ w'.cell? ⟨w.heap.size + 1, 1, none⟩ = some (.int .i64 (j : Int))) 13 (by kernel_rfl) ?_
  have hS0 := And.intro u1 k1
  refine KeptAny.take (i := 0) (v := ?_) (by kernel_rfl) rfl rfl (by kernel_rfl) (by kernel_rfl) (by kernel_rfl) (fun _ _ _ h => h) (by rfl) (fun w' hw' => ?_) (fun _ => rfl) hS0 ?_
  rotate_left
  · (obtain ⟨g0, g1⟩ := hw'; go_simp; try with_reducible rfl)
  refine KeptAny.take (i := 1) (v := ?_) (by kernel_rfl) rfl rfl (by kernel_rfl) (by kernel_rfl) (by kernel_rfl) (fun _ _ _ h => h) (by rfl) (fun w' hw' => ?_) (fun _ => rfl) hS0 ?_
  rotate_left
  · (obtain ⟨g0, g1⟩ := hw'; go_simp; try with_reducible rfl)
  refine KeptAny.take (i := 2) (v := ?_) (by kernel_rfl) rfl rfl (by kernel_rfl) (by kernel_rfl) (by kernel_rfl) (fun _ _ _ h => h) (by rfl) (fun w' hw' => ?_) (fun _ => rfl) hS0 ?_
  rotate_left
  · (obtain ⟨g0, g1⟩ := hw'; go_simp; try with_reducible rfl)
  refine KeptAny.take (i := 3) (v := ?_) (by kernel_rfl) rfl rfl (by kernel_rfl) (by kernel_rfl) (by kernel_rfl) (fun _ _ _ h => h) (by rfl) (fun w' hw' => ?_) (fun _ => rfl) hS0 ?_
  rotate_left
  · (obtain ⟨g0, g1⟩ := hw'; go_simp; try with_reducible rfl)
  refine KeptAny.take (i := 4) (v := ?_) (by kernel_rfl) rfl rfl (by kernel_rfl) (by kernel_rfl) (by kernel_rfl) (fun _ _ _ h => h) (by rfl) (fun w' hw' => ?_) (fun _ => rfl) hS0 ?_
  rotate_left
  · (obtain ⟨g0, g1⟩ := hw'; go_simp; try with_reducible rfl)
  refine KeptAny.take (i := 5) (v := ?_) (by kernel_rfl) rfl rfl (by kernel_rfl) (by kernel_rfl) (by kernel_rfl) (fun _ _ _ h => h) (by rfl) (fun w' hw' => ?_) (fun _ => rfl) hS0 ?_
  rotate_left
  · (obtain ⟨g0, g1⟩ := hw'; go_simp; try with_reducible rfl)
  refine KeptAny.take (i := 6) (v := ?_) (by kernel_rfl) rfl rfl (by kernel_rfl) (by kernel_rfl) (by kernel_rfl) (fun _ _ _ h => h) (by rfl) (fun w' hw' => ?_) (fun _ => rfl) hS0 ?_
  rotate_left
  · (obtain ⟨g0, g1⟩ := hw'; go_simp; try with_reducible rfl)
  refine KeptAny.take (i := 7) (v := ?_) (by kernel_rfl) rfl rfl (by kernel_rfl) (by kernel_rfl) (by kernel_rfl) (fun _ _ _ h => h) (by rfl) (fun w' hw' => ?_) (fun _ => rfl) hS0 ?_
  rotate_left
  · (obtain ⟨g0, g1⟩ := hw'; go_simp; try with_reducible rfl)
  refine KeptAny.take (i := 8) (v := ?_) (by kernel_rfl) rfl rfl (by kernel_rfl) (by kernel_rfl) (by kernel_rfl) (fun _ _ _ h => h) (by rfl) (fun w' hw' => ?_) (fun _ => rfl) hS0 ?_
  rotate_left
  · (obtain ⟨g0, g1⟩ := hw'; go_simp; try with_reducible rfl)
  refine KeptAny.take (i := 9) (v := ?_) (by kernel_rfl) rfl rfl (by kernel_rfl) (by kernel_rfl) (by kernel_rfl) (fun _ _ _ h => h) (by rfl) (fun w' hw' => ?_) (fun _ => rfl) hS0 ?_
  rotate_left
  · (obtain ⟨g0, g1⟩ := hw'; go_simp; try with_reducible rfl)
  refine KeptAny.one (i := 10) (by kernel_rfl) rfl (by rfl) (fun K hK => ?_)
  go_simp
  refine ⟨trivial, ?_⟩
  refine D.out.mono ?_
  rintro e w4 ⟨rfl, hown4, hg4⟩
  have hne1 : some gs ≠ some gi := by
    have h1 := HO.out.row
    have h2 := HO.out.items i s _ HS.out HU.out
    rcases owns_types_apart h1 h2 (by decide) with h | h
    · simp [Value.ownBlock] at h
    · exact h
  have hne2 : some (w.heap.size + 1) ≠ some gi := by have := HLT.out; intro e; have := Option.some.inj e; omega
  have hne3 : some (w.heap.size + 1 + 1) ≠ some gi := by have := HLT.out; intro e; have := Option.some.inj e; omega
  have hne4 : some w1.heap.size ≠ some gi := by have := HLT.out; intro e; have := Option.some.inj e; omega
  have hS4 := And.intro (cell_grownBy hg4 hne1 hS0.1) (cell_grownBy hg4 hne2 hS0.2)
  have RH4 := Lib.hid (RH.out.drew.grown hg4 hne4)
  have RR4 := Lib.hid (HR3a.out.drew.grown hg4 hne3)
  have HG4 : Hid (OwnGr (w4.setCell ⟨gs, i * 2 + 1, none⟩ (.slice (some ⟨gi, 0, none⟩) n ci)) (w.heap.size + 3) (.slice (some ⟨gs, 0, none⟩) ss.length cs) (rmvP ss i j) (hs.set i (.slice (some ⟨gi, 0, none⟩) n ci))) := Lib.hid (by
    have h1 := HO.out
    rw [HLT.out.2.2.2.2] at h1
    refine OwnGr.rmv (h1.below ((Below.refl _ _).drew)) HS.out HU.out hg4 rfl ?_
    rw [show (s.items.eraseIdx j).length = n by rw [List.length_eraseIdx, if_pos HJ.out, HN.out]; rfl]
    exact hown4)
  obtain ⟨vs4, hRS⟩ : ∃ vs, Row w4 gs 69 vs := by
    obtain ⟨vs, h1⟩ := ownsRow_row HO.out.row
    exact ⟨vs, h1.drew.grown hg4 hne1⟩
  have f4 := hRS.frozen (i * 2 + 1)
  have HB4 := Lib.hid (HB1.out.drew.trans (below_grown1 hg4 (by have := HB1.out.size; exact this) (fun g e => by have h9 := HLT.out; simp only [Option.some.injEq] at e; omega)))
  have HRS := Lib.hid hRS
  clear hown4 hg4 hS0 u1 k1 hRS
  refine hK.out _ _ hS4 (fun _ => ?_)
  clear hK
  refine KeptAny.one (i := 11) (by kernel_rfl) rfl (by rfl) (fun K hK => ?_)
  go_simp
  refine hK.out _ _ hS4 (fun _ => ?_)
  clear hK
  refine KeptAny.one (i := 12) (by kernel_rfl) rfl (by rfl) (fun K hK => ?_)
  go_simp
  refine hK.out _ _ hS4 (fun _ => ?_)
  clear hK
  have us4 := hS4.1
  clear hS4
  refine KeptAny.last (by kernel_rfl) rfl (by rfl) (fun K hK => ?_)
  go_simp
  refine hK.out _ _ ?_
  clear hK
  refine KeptAny.done (by kernel_rfl) ?_ _
  have hB5 := Lib.hid (HB4.out.setCell (p := ⟨gs, i * 2 + 1, none⟩) (by have := HLT.out; show w.heap.size ≤ gs; omega) (.slice (some ⟨gi, 0, none⟩) n ci))
  have r0 := (RH4.out.other (a := ⟨gs, i * 2 + 1, none⟩) (by have := HLT.out; show gs ≠ w1.heap.size; omega) (.slice (some ⟨gi, 0, none⟩) n ci)).cell (i := 0) (v := .slice (some ⟨gs, 0, none⟩) ss.length cs) (by rfl)
  have RR5 := Lib.hid (RR4.out.other (a := ⟨gs, i * 2 + 1, none⟩) (by have := HLT.out; show gs ≠ w.heap.size + 1 + 1; omega) (.slice (some ⟨gi, 0, none⟩) n ci))
  have n0 := RR5.out.cell (i := 0) (v := .slice none 0 0) (by rfl)
  have f0 := RR5.out.frozen 0
  clear us4 f4
  generalize w4.setCell ⟨gs, i * 2 + 1, none⟩ (.slice (some ⟨gi, 0, none⟩) n ci) = w5 at *
  go_wp2
  have RT := RR5.out.set 0 (.slice (some ⟨gs, 0, none⟩) ss.length cs)
  have d0 := RT.cell (i := 0) (v := .slice (some ⟨gs, 0, none⟩) ss.length cs) (by rfl)
  refine bodyPost_ret (v := .agg #[.slice (some ⟨gs, 0, none⟩) ss.length cs]) (by simp [results, Tryd.results77, go_sem, d0]) rfl ⟨_, hs.set i (.slice (some ⟨gi, 0, none⟩) n ci), rfl, ?_, hB5.out.setCell (by simp; omega) _⟩
  refine OwnGr.lower (B := w.heap.size + 3) ?_ (by omega)
  exact ⟨HG4.out.len, ownsRow_otherN HG4.out.row RR5.out (by decide) 0 _, fun k t z h1 h2 => ownsRow_otherN (HG4.out.items k t z h1 h2) RR5.out (by decide) 0 _, HG4.out.apart⟩
end Go.Proofs.YtppgdigcopkeiaaDoor
namespace Go.Proofs.YtppgdigcopkeiaaDoor
open Go Go.RowKit
theorem wpIn_append_run {P : Program} {F : Fence} {n : Nat} {w : World} {o : Oper} {a : Act} {K : Act → World → Prop} {Q : Exit → Act → World → Prop} (s x : Operand) (t : TypeId)
    (ho : o.op = .call { callee := .builtin .append, args := #[s, x], argTypes := #[t, t] }) (hab : o.about P w a.eval = none) {v' : Value} {w' : World} (hr : (Builtin.append_ #[t, t] o.type #[a.eval s, a.eval x]).run P w = .ok v' w')
    (h : K (a.put o.dst v') w') : o.wpIn F n P a w K Q := by
  refine ⟨fun f hf => (by rw [hab] at hf; cases hf), ?_⟩
  rw [Oper.semAt_eq _ _ _ (fun c => by rw [ho]; exact fun h => by cases h)]
  unfold execOp
  simp only [ho, resolve, invoke, builtin, Sem.run_bind, Sem.run_pure, Result.andThen_ok, List.map_toArray, List.map_cons, List.map_nil, hr]
  exact h
theorem ownsRow_ne2' {w : World} {base n size : Nat} {e : TypeId} {v : Value} {xs : List Value} (h : w.ownsRow base e size v n xs) (g : Nat) (hg : w.heap.size ≤ g) (e' : some g = v.ownBlock) : False := by
  have := (h.lt g e'.symm).2
  omega
theorem append_scope0 {W : World} {base k : Nat} {v : Value} {xs : List Value} (hrow : W.ownsRow base 69 2 v k xs) (x : Int) (u : Value) (hu : u.oneCell' = true) (hk : k < 2000000) (hbase : base ≤ W.heap.size) (ty : TypeId) :
    ∃ v' w', (Builtin.append_ #[28, 28] ty #[v, .slice (some ⟨W.heap.size, 0, none⟩) 1 1]).run Tryd.prog (W.alloc (.cells #[.int .i64 x, u] 69)) = .ok v' w' ∧ w'.ownsRow base 69 2 v' (k + 1) (xs ++ [.int .i64 x, u]) ∧ (W.alloc (.cells #[.int .i64 x, u] 69)).grownBy w' v.ownBlock := by
  obtain ⟨i0, hi, hz0, hz1, hz2⟩ := info_parts infoScope
  obtain ⟨v', w', hrun, h2, h3, _⟩ := run_append_own (P := Tryd.prog) (W.alloc (.cells #[.int .i64 x, u] 69)) base 28 ty 69 i0 _ 2 32 Tryd.underlying28 hi hz0 hz1 hz2 rfl (by decide) v k xs (hrow.alloc _) ⟨W.heap.size, 0, none⟩ 1 1 [.int .i64 x, u] rfl (cells_new2 W _ _ _)
    (by intro z hz; simp only [List.mem_cons, List.not_mem_nil, or_false] at hz; rcases hz with rfl | rfl <;> first | rfl | exact hu) (by unfold maxLen; omega) (by omega) (by show base ≤ (W.alloc _).heap.size; simp; omega)
  exact ⟨v', w', hrun, h2, h3⟩
set_option maxRecDepth 100000 in
set_option maxHeartbeats 4000000 in
theorem specCopy_any (ss : List Sc) (oa : Option Addr) (cap : Nat) (hn : ss.length ≤ 1048576) (hn2 : ∀ s ∈ ss, s.items.length < 1048577) (w : World) (hc : HoldsScopes w oa ss) :
    Calls Tryd.prog 140 #[.agg #[.slice oa ss.length cap]] w fun e w' => ∃ v hs, e = .returned (.agg #[v]) ∧ OwnGr w' w.heap.size v ss hs ∧ Below w.heap.size w w' := by
  have hb0 : Below w.heap.size w ((((w.alloc (.cells #[.slice oa ss.length cap] 30)).alloc (.cells #[.slice none 0 0] 30)).alloc (.cells #[] 69)).alloc (.cells #[.slice (some ⟨w.heap.size + 1 + 1, 0, none⟩) 0 0] 30)) :=
    ((((Below.refl _ _).alloc (Nat.le_refl _) _).alloc (by simp) _).alloc (by simp; omega) _).alloc (by simp; omega) _
  have R1 := (((Row.new w [.slice oa ss.length cap] 30).alloc (.cells #[.slice none 0 0] 30)).alloc (.cells #[] 69)).alloc (.cells #[.slice (some ⟨w.heap.size + 1 + 1, 0, none⟩) 0 0] 30)
  have R2 := ((Row.new (w.alloc (.cells #[.slice oa ss.length cap] 30)) [.slice none 0 0] 30).alloc (.cells #[] 69)).alloc (.cells #[.slice (some ⟨w.heap.size + 1 + 1, 0, none⟩) 0 0] 30)
  have R4 := Row.new (((w.alloc (.cells #[.slice oa ss.length cap] 30)).alloc (.cells #[.slice none 0 0] 30)).alloc (.cells #[] 69)) [.slice (some ⟨w.heap.size + 1 + 1, 0, none⟩) 0 0] 30
  have hM := (OwnGr.made ((w.alloc (.cells #[.slice oa ss.length cap] 30)).alloc (.cells #[.slice none 0 0] 30)) w.heap.size (by simp; omega)).below ((Below.refl _ _).alloc (Nat.le_refl _) (.cells #[.slice (some ⟨w.heap.size + 1 + 1, 0, none⟩) 0 0] 30))
  simp only [World.size_alloc] at R2 R4 hM
  have HB := Lib.hid hb0
  have HR2 := Lib.hid R2
  have HR4 := Lib.hid R4
  have HM := Lib.hid hM
  have HC := Lib.hid hc
  have HN2 := Lib.hid hn2
  have g1 := R1.cell (i := 0) (by rfl)
  clear hc hn2 hb0 R1 R2 R4 hM
  go_enter Tryd.func140, Tryd.ntmps140
  go_wp2
  go_loopw [11] (fun i wr => ∃ (k : Nat) (v : Value) (hs : List Value), i = .int .i64 k ∧ k ≤ ss.length ∧ Hid (OwnGr wr w.heap.size v (ss.take k) hs ∧ Below w.heap.size w wr ∧ Row wr (w.heap.size + 1) 30 [.slice none 0 0] ∧ Row wr (w.heap.size + 1 + 1 + 1) 30 [v])) (fun i _ => ss.length - (intOf i).toNat)
  case atStart => exact ⟨0, _, [], rfl, Nat.zero_le _, Lib.hid ⟨HM.out, HB.out, HR2.out, HR4.out⟩⟩
  case round =>
    obtain ⟨k, v, hs, rfl, hk, hP⟩ := hrel
    by_cases hlt : k < ss.length
    · obtain ⟨s, hs'⟩ : ∃ s, ss[k]? = some s := ⟨_, List.getElem?_eq_getElem hlt⟩
      obtain ⟨b1, f1, rfl, hb1, hcell⟩ := HC.out.at (by omega)
      obtain ⟨oi, ci, x0, x1, hIt⟩ := hcell k s hs'
      have y0 := (hP.out.2.1.cell (p := ⟨b1, _, none⟩) hb1).trans x0
      have y1 := (hP.out.2.1.cell (p := ⟨b1, _, none⟩) hb1).trans x1
      have hbA := (Below.refl wr.heap.size wr).alloc (Nat.le_refl _) (.cells #[.int .i64 s.parent, .slice oi s.items.length ci] 69)
      have hbE := hbA.drew.trans ((Below.refl _ _).alloc (Nat.le_refl _) (.cells #[] 60) |>.mono hbA.drew.size)
      have HIA := Lib.hid (hIt.below (hP.out.2.1.trans (hbE.mono hP.out.2.1.size)) (Nat.le_refl _))
      have HBE := Lib.hid hbE
      have HBA := Lib.hid (hP.out.2.1.trans (hbE.mono hP.out.2.1.size))
      have HGE := Lib.hid (hP.out.1.below hbE)
      have HR2E := Lib.hid (hP.out.2.2.1.below hbE hP.out.2.2.1.lt)
      have HR4E := Lib.hid (hP.out.2.2.2.below hbE hP.out.2.2.2.lt)
      have RS := (Row.new wr [.int .i64 s.parent, .slice oi s.items.length ci] 69)
      have s0 := cell_drew (hP.out.2.2.2.below hbA hP.out.2.2.2.lt |>.cell (i := 0) (by rfl))
      have s1 := cell_drew (RS.cell (i := 0) (by rfl))
      have s2 := cell_drew (RS.cell (i := 1) (by rfl))
      have hownE : ((wr.alloc (.cells #[.int .i64 s.parent, .slice oi s.items.length ci] 69)).drew.alloc (.cells #[] 60)).ownsRow (wr.heap.size + 1) 60 3 (.slice (some ⟨wr.heap.size + 1, 0, none⟩) 0 0) 0 [] := by
        have h0 := World.ownsRow_made (base := wr.heap.size + 1) (e := 60) (size := 3) (wr.alloc (.cells #[.int .i64 s.parent, .slice oi s.items.length ci] 69)).drew #[] 0 (by rw [show (wr.alloc (.cells #[.int .i64 s.parent, .slice oi s.items.length ci] 69)).drew.heap.size = wr.heap.size + 1 from World.size_alloc _ _]; exact Nat.le_refl _) (by unfold maxLen; omega) rfl
        rw [show (wr.alloc (.cells #[.int .i64 s.parent, .slice oi s.items.length ci] 69)).drew.heap.size = wr.heap.size + 1 from World.size_alloc _ _] at h0
        exact h0
      obtain ⟨v7, w7, hrun7, hown7, hg7⟩ := run_append_items hownE (by simp) (ci := ci) HIA.out (by omega) (by have := HN2.out s (List.mem_of_getElem? hs'); omega) 67
      simp only [Nat.zero_add, List.nil_append] at hown7
      have HTK : Hid (ss.take (k + 1) = ss.take k ++ [s]) := Lib.hid (by rw [List.take_add_one, hs']; rfl)
      have hkl : (ss.take k).length = k := by rw [List.length_take]; omega
      have hb7 : Below (wr.heap.size + 1) _ w7 := below_grown1 hg7 (by simp) (fun r e => by simp only [Value.ownBlock, Option.some.injEq] at e; omega)
      obtain ⟨o7, c7, rfl, -⟩ := holdsItems_of_owns hown7
      have hz7 : wr.heap.size + 1 + 1 ≤ w7.heap.size := by have := hb7.size; simp at this; omega
      have hlow : w.heap.size + 1 + 1 + 1 < wr.heap.size := hP.out.2.2.2.lt
      have far : ∀ {B' n size : Nat} {e : TypeId} {z : Value} {zs : List Value}, wr.ownsRow B' e size z n zs → w7.ownsRow B' e size z n zs := fun {B' n size e z zs} hz => by
        have h1 := hz.lt
        obtain ⟨q1, q2 | ⟨g, c, cur, hv, hB, hh, r⟩⟩ := hz
        · exact ⟨q1, .inl q2⟩
        · have hgl := (Array.getElem?_eq_some_iff.1 hh).1
          exact ⟨q1, .inr ⟨g, c, cur, hv, hB, (hb7.block g (by omega)).trans ((HBE.out.block g hgl).trans hh), r⟩⟩
      have HG7 : Hid (OwnGr w7 w.heap.size v (ss.take k) hs) := Lib.hid ⟨hP.out.1.len, far hP.out.1.row, fun i t u h1 h2 => far (hP.out.1.items i t u h1 h2), hP.out.1.apart⟩
      have HB7 := Lib.hid (HBA.out.trans (hb7.mono (by omega)))
      have HR27 := Lib.hid (HR2E.out.below hb7 (by omega))
      have HR47 := Lib.hid (HR4E.out.below hb7 (by omega))
      have HU7 := Lib.hid hown7
      have hrow7 := HG7.out.row
      rw [hkl] at hrow7
      obtain ⟨v9, w9, hrun9, hown9, hg9⟩ := append_scope0 hrow7 s.parent (.slice o7 s.items.length c7) rfl (by omega) HB7.out.size 28
      have HG9 : Hid (OwnGr w9 w.heap.size v9 (ss.take (k + 1)) (hs ++ [.slice o7 s.items.length c7])) := Lib.hid (by
        rw [HTK.out]
        refine OwnGr.snoc (w0 := wr) (p := s.parent) (xs := s.items) hP.out.1 HG7.out (HU7.out.mono (by omega)) (by omega) hg9 ?_
        rw [hkl]
        exact hown9)
      have HB9 := Lib.hid (HB7.out.trans (((Below.refl w.heap.size w7).alloc HB7.out.size (.cells #[.int .i64 s.parent, .slice o7 s.items.length c7] 69)).trans (below_grown1 hg9 (by simp; omega) (fun r e => (hrow7.lt r e).1))))
      have HR29 := Lib.hid ((HR27.out.alloc (.cells #[.int .i64 s.parent, .slice o7 s.items.length c7] 69)).grown hg9 (ownsRow_ne2 HR27.out (by decide) hrow7))
      have HR49 := Lib.hid ((HR47.out.alloc (.cells #[.int .i64 s.parent, .slice o7 s.items.length c7] 69)).grown hg9 (ownsRow_ne2 HR47.out (by decide) hrow7))
      have RS7 := (RS.drew.alloc (.cells #[] 60)).below hb7 (by omega)
      have RS9 := ((RS7.alloc (.cells #[.int .i64 s.parent, .slice o7 s.items.length c7] 69)).grown hg9 (by
        intro e
        have h1 := (hrow7.lt _ e.symm).2
        exact ownsRow_ne2' hP.out.1.row wr.heap.size (Nat.le_refl _) e))
      have hTE := And.intro (cell_grow ((Below.refl _ _).alloc (Nat.le_refl _) (.cells #[] 60)) s0) (And.intro (cell_grow ((Below.refl _ _).alloc (Nat.le_refl _) (.cells #[] 60)) s1) (cell_grow ((Below.refl _ _).alloc (Nat.le_refl _) (.cells #[] 60)) s2))
      have hT7 := And.intro (HR47.out.cell (i := 0) (v := v) (by rfl)) (And.intro (RS7.cell (i := 0) (v := .int .i64 s.parent) (by rfl)) (RS7.cell (i := 1) (v := .slice oi s.items.length ci) (by rfl)))
      have hT8 := And.intro (cell_grow ((Below.refl _ _).alloc (Nat.le_refl _) (.cells #[.int .i64 s.parent, .slice o7 s.items.length c7] 69)) hT7.1) (And.intro (cell_grow ((Below.refl _ _).alloc (Nat.le_refl _) (.cells #[.int .i64 s.parent, .slice o7 s.items.length c7] 69)) hT7.2.1) (cell_grow ((Below.refl _ _).alloc (Nat.le_refl _) (.cells #[.int .i64 s.parent, .slice o7 s.items.length c7] 69)) hT7.2.2))
      have hT9 := And.intro (HR49.out.cell (i := 0) (v := v) (by rfl)) (And.intro (RS9.cell (i := 0) (v := .int .i64 s.parent) (by rfl)) (RS9.cell (i := 1) (v := .slice oi s.items.length ci) (by rfl)))
      obtain ⟨ov, cv, rfl⟩ := ownsRow_slice hrow7
      obtain ⟨o9, c9, rfl⟩ := ownsRow_slice hown9
      have HT := Lib.hid (And.intro hTE (And.intro hT7 (And.intro hT8 hT9)))
      have HRUN := Lib.hid (And.intro hrun7 hrun9)
      clear hs' hcell x0 x1 hIt hbA hbE hownE hrun7 hown7 hg7 hb7 hkl hz7 hlow far hrow7 hrun9 hown9 hg9 RS RS7 RS9 hTE hT7 hT8 hT9
      go_wp2
      refine wp_region_kept (S := fun w' => w'.cell? ⟨w.heap.size + 1 + 1 + 1, 0, none⟩ = some (.slice ov k cv) ∧ w'.cell? ⟨wr.heap.size, 0, none⟩ = some (.int .i64 s.parent) ∧ w'.cell? ⟨wr.heap.size, 1, none⟩ = some (.slice oi s.items.length ci)) 12 (by kernel_rfl) ?_
      have hS0 := And.intro s0 (And.intro s1 s2)
      refine KeptAny.take (i := 0) (v := ?_) (by kernel_rfl) rfl rfl (by kernel_rfl) (by kernel_rfl) (by kernel_rfl) (fun _ _ _ h => h) (by rfl) (fun w' hw' => ?_) (fun _ => rfl) hS0 ?_
      rotate_left
      · (obtain ⟨g0, g1, g2⟩ := hw'; go_simp; try with_reducible rfl)
      refine KeptAny.take (i := 1) (v := ?_) (by kernel_rfl) rfl rfl (by kernel_rfl) (by kernel_rfl) (by kernel_rfl) (fun _ _ _ h => h) (by rfl) (fun w' hw' => ?_) (fun _ => rfl) hS0 ?_
      rotate_left
      · (obtain ⟨g0, g1, g2⟩ := hw'; go_simp; try with_reducible rfl)
      refine KeptAny.take (i := 2) (v := ?_) (by kernel_rfl) rfl rfl (by kernel_rfl) (by kernel_rfl) (by kernel_rfl) (fun _ _ _ h => h) (by rfl) (fun w' hw' => ?_) (fun _ => rfl) hS0 ?_
      rotate_left
      · (obtain ⟨g0, g1, g2⟩ := hw'; go_simp; try with_reducible rfl)
      refine KeptAny.take (i := 3) (v := ?_) (by kernel_rfl) rfl rfl (by kernel_rfl) (by kernel_rfl) (by kernel_rfl) (fun _ _ _ h => h) (by rfl) (fun w' hw' => ?_) (fun _ => rfl) hS0 ?_
      rotate_left
      · (obtain ⟨g0, g1, g2⟩ := hw'; go_simp; try with_reducible rfl)
      refine KeptAny.take (i := 5) (v := ?_) (by kernel_rfl) rfl rfl (by kernel_rfl) (by kernel_rfl) (by kernel_rfl) (fun _ _ _ h => h) (by rfl) (fun w' hw' => ?_) (fun _ => rfl) hS0 ?_
      rotate_left
      · (obtain ⟨g0, g1, g2⟩ := hw'; go_simp; try with_reducible rfl)
      refine KeptAny.take (i := 6) (v := ?_) (by kernel_rfl) rfl rfl (by kernel_rfl) (by kernel_rfl) (by kernel_rfl) (fun _ _ _ h => h) (by rfl) (fun w' hw' => ?_) (fun _ => rfl) hS0 ?_
      rotate_left
      · (obtain ⟨g0, g1, g2⟩ := hw'; go_simp; try with_reducible rfl)
      refine KeptAny.one (i := 4) (by kernel_rfl) rfl (by rfl) (fun K hK => ?_)
      go_simp
      refine hK.out _ _ HT.out.1 (fun _ => ?_)
      clear hK hS0 s0 s1 s2
      refine KeptAny.one (i := 7) (by kernel_rfl) rfl (by rfl) (fun K hK => ?_)
      refine wpIn_append_run _ _ 67 rfl rfl HRUN.out.1 ?_
      refine hK.out _ _ HT.out.2.1 (fun _ => ?_)
      clear hK
      have hS7 := HT.out.2.1
      refine KeptAny.take (i := 8) (v := ?_) (by kernel_rfl) rfl rfl (by kernel_rfl) (by kernel_rfl) (by kernel_rfl) (fun _ _ _ h => h) (by rfl) (fun w' hw' => ?_) (fun _ => rfl) hS7 ?_
      rotate_left
      · (obtain ⟨g0, g1, g2⟩ := hw'; go_simp; try with_reducible rfl)
      refine KeptAny.one (i := 9) (by kernel_rfl) rfl (by rfl) (fun K hK => ?_)
      go_simp
      refine hK.out _ _ HT.out.2.2.1 (fun _ => ?_)
      clear hK
      refine KeptAny.one (i := 10) (by kernel_rfl) rfl (by rfl) (fun K hK => ?_)
      refine wpIn_append_run _ _ 28 rfl rfl HRUN.out.2 ?_
      refine hK.out _ _ HT.out.2.2.2 (fun _ => ?_)
      clear hK
      refine KeptAny.one (i := 11) (by kernel_rfl) rfl (by rfl) (fun K hK => ?_)
      go_simp
      refine hK.out _ _ HT.out.2.2.2 (fun _ => ?_)
      clear hK
      have n0 := HT.out.2.2.2.1
      have f0 := HR49.out.frozen 0
      refine KeptAny.last (by kernel_rfl) rfl (by rfl) (fun K hK => ?_)
      go_simp
      refine hK.out _ _ ?_
      clear hK n0 f0 hS7
      refine KeptAny.done (by kernel_rfl) ?_ _
      have HGX : Hid (OwnGr (w9.setCell ⟨w.heap.size + 1 + 1 + 1, 0, none⟩ (.slice o9 (k + 1) c9)) w.heap.size (.slice o9 (k + 1) c9) (ss.take (k + 1)) (hs ++ [.slice o7 s.items.length c7])) := Lib.hid
        ⟨HG9.out.len, ownsRow_otherN HG9.out.row HR49.out (by decide) 0 _, fun i t u h1 h2 => ownsRow_otherN (HG9.out.items i t u h1 h2) HR49.out (by decide) 0 _, HG9.out.apart⟩
      have HBX := Lib.hid (HB9.out.setCell (p := ⟨w.heap.size + 1 + 1 + 1, 0, none⟩) (by show w.heap.size ≤ w.heap.size + 1 + 1 + 1; omega) (.slice o9 (k + 1) c9))
      have HR2X := Lib.hid (HR29.out.other (a := ⟨w.heap.size + 1 + 1 + 1, 0, none⟩) (by show w.heap.size + 1 + 1 + 1 ≠ w.heap.size + 1; omega) (.slice o9 (k + 1) c9))
      have HR4X := Lib.hid (HR49.out.set 0 (.slice o9 (k + 1) c9))
      clear HT HRUN
      go_wp2
      go_roundw
      case rel => exact ⟨k + 1, _, _, by go_num, by omega, Lib.hid ⟨HGX.out, HBX.out, HR2X.out, HR4X.out⟩⟩
      case measure => simp only [intOf]; omega
    · obtain rfl : k = ss.length := by omega
      have HG : Hid (OwnGr wr w.heap.size v ss hs) := Lib.hid (by have := hP.out.1; rwa [List.take_length] at this)
      obtain ⟨ov, cv, rfl, -⟩ := HG.out.holds
      have n0 := hP.out.2.2.1.cell (i := 0) (v := .slice none 0 0) (by rfl)
      have f0 := hP.out.2.2.1.frozen 0
      have h0 := hP.out.2.2.2.cell (i := 0) (v := .slice ov ss.length cv) (by rfl)
      have HT := Lib.hid (hP.out.2.2.1.set 0 (.slice ov ss.length cv))
      have HGT : Hid (OwnGr (wr.setCell ⟨w.heap.size + 1, 0, none⟩ (.slice ov ss.length cv)) w.heap.size (.slice ov ss.length cv) ss hs) := Lib.hid
        ⟨HG.out.len, ownsRow_otherN HG.out.row hP.out.2.2.1 (by decide) 0 _, fun i s u h1 h2 => ownsRow_otherN (HG.out.items i s u h1 h2) hP.out.2.2.1 (by decide) 0 _, HG.out.apart⟩
      go_wp2
      have d0 := HT.out.cell (i := 0) (v := .slice ov ss.length cv) (by rfl)
      refine bodyPost_ret (v := .agg #[.slice ov ss.length cv]) (by simp [results, Tryd.results140, go_sem, d0]) rfl ⟨_, hs, rfl, HGT.out, hP.out.2.1.setCell (by simp) _⟩
end Go.Proofs.YtppgdigcopkeiaaDoor
namespace Go.Proofs.YtppgdigcopkeiaaDoor
open Go Go.RowKit
theorem holdsItems_take {w : World} {b off : Nat} {xs : List It} (h : HoldsItems w (some ⟨b, off, none⟩) xs) (k : Nat) : HoldsItems w (some ⟨b, off, none⟩) (xs.take k) := by
  rcases h with h | ⟨b', off', h1, h2, h3⟩
  · exact .inl (by rw [h]; simp)
  · cases h1
    exact .inr ⟨b, off, rfl, h2, fun i x hx => h3 i x (by rw [List.getElem?_take] at hx; split at hx <;> first | exact hx | cases hx)⟩
theorem holdsItems_drop {w : World} {b off : Nat} {xs : List It} (h : HoldsItems w (some ⟨b, off, none⟩) xs) (k : Nat) : HoldsItems w (some ⟨b, off + k * 3, none⟩) (xs.drop k) := by
  rcases h with h | ⟨b', off', h1, h2, h3⟩
  · exact .inl (by rw [h]; simp)
  · cases h1
    refine .inr ⟨b, off + k * 3, rfl, h2, fun i x hx => ?_⟩
    rw [List.getElem?_drop] at hx
    obtain ⟨q0, q1, q2⟩ := h3 (k + i) x hx
    rw [show off + k * 3 + i * 3 = off + (k + i) * 3 by omega]
    exact ⟨q0, q1, q2⟩
theorem OwnGr.rmv2 {w w1 : World} {B g cap i j : Nat} {ss : List Sc} {hs : List Value} {s : Sc} {u' : Value} (h : OwnGr w B (.slice (some ⟨g, 0, none⟩) ss.length cap) ss hs) (hs' : ss[i]? = some s)
    (hb : Below w.heap.size w w1) (hB : B ≤ w.heap.size) (hown : w1.ownsRow w.heap.size 60 3 u' (s.items.eraseIdx j).length (itemCells (s.items.eraseIdx j))) :
    OwnGr (w1.setCell ⟨g, i * 2 + 1, none⟩ u') B (.slice (some ⟨g, 0, none⟩) ss.length cap) (rmvP ss i j) (hs.set i u') := by
  have hil := (List.getElem?_eq_some_iff.1 hs').1
  obtain ⟨u, hu⟩ : ∃ u, hs[i]? = some u := ⟨_, List.getElem?_eq_getElem (by rw [h.len]; exact hil)⟩
  have hrow1 := ownsRow_below h.row hb
  obtain ⟨vs, hR⟩ := ownsRow_row hrow1
  have hat : ∀ (k : Nat) (z : Value), (hs.set i u')[k]? = some z → (k = i ∧ z = u') ∨ (k ≠ i ∧ hs[k]? = some z) := fun k z hz => by
    by_cases hk : k = i
    · subst hk
      rw [List.getElem?_set_self (List.getElem?_eq_some_iff.1 hu).1] at hz
      exact .inl ⟨rfl, (Option.some.inj hz).symm⟩
    · rw [List.getElem?_set_ne (fun e => hk e.symm)] at hz
      exact .inr ⟨hk, hz⟩
  have old : ∀ (k : Nat) (z : Value), hs[k]? = some z → ∀ q, z.ownBlock = some q → q < w.heap.size := fun k z hz q hq => by
    obtain ⟨t, ht⟩ : ∃ t, ss[k]? = some t := ⟨_, List.getElem?_eq_getElem (by rw [← h.len]; exact (List.getElem?_eq_some_iff.1 hz).1)⟩
    exact ((h.items k t z ht hz).lt q hq).2
  have new : ∀ q, u'.ownBlock = some q → w.heap.size ≤ q := fun q hq => (hown.lt q hq).1
  refine ⟨by rw [List.length_set, rmvP_length]; exact h.len, ?_, fun k t z ht hz => ?_, fun a b z z' hab hz hz' => ?_⟩
  · rw [rmvP_length, scRow_rmv i j u' h.len hil]
    exact ownsRow_set hrow1 (by rw [scRow_length h.len]; omega) u'
  · rcases hat k z hz with ⟨rfl, rfl⟩ | ⟨hk, hz2⟩
    · rw [rmvP_same hs'] at ht
      obtain rfl := Option.some.inj ht
      exact (ownsRow_otherN hown hR (by decide) _ _).mono hB
    · rw [rmvP_other hk] at ht
      exact ownsRow_otherN (ownsRow_below (h.items k t z ht hz2) hb) hR (by decide) _ _
  · rcases hat a z hz with ⟨rfl, rfl⟩ | ⟨ha, hz2⟩ <;> rcases hat b z' hz' with ⟨rfl, rfl⟩ | ⟨hb2, hz3⟩
    · exact absurd rfl hab
    · cases hq : z.ownBlock with
      | none => exact .inl rfl
      | some q => exact .inr fun e => by have h1 := new q hq; have h2 := old b z' hz3 q e.symm; omega
    · cases hq : z.ownBlock with
      | none => exact .inl rfl
      | some q => exact .inr fun e => by have h1 := new q e.symm; have h2 := old a z hz2 q hq; omega
    · exact h.apart a b z z' hab hz2 hz3
set_option maxRecDepth 100000 in
set_option maxHeartbeats 4000000 in
theorem specRemove_any (ss : List Sc) (hn : ss.length ≤ 1048576) (hn2 : ∀ s ∈ ss, s.items.length < 1048577) (oa : Option Addr) (cap i j : Nat) (s : Sc) (x : It) (hs' : ss[i]? = some s) (hx : s.items[j]? = some x) (w : World) (hc : HoldsScopes w oa ss) :
    Calls Tryd.prog 126 #[.agg #[.slice oa ss.length cap], .agg #[.int .i64 (i : Int), .int .i64 (j : Int)]] w fun e w' => ∃ v hs, e = .returned (.agg #[v]) ∧ OwnGr w' w.heap.size v (rmvP ss i j) hs ∧ Below w.heap.size w w' := by
  have hb0 : Below w.heap.size w (((w.alloc (.cells #[.slice oa ss.length cap] 30)).alloc (.cells #[.int .i64 (i : Int), .int .i64 (j : Int)] 34)).alloc (.cells #[.slice none 0 0] 30)) := (((Below.refl _ _).alloc (Nat.le_refl _) _).alloc (by simp) _).alloc (by simp; omega) _
  have R1 := ((Row.new w [.slice oa ss.length cap] 30).alloc (.cells #[.int .i64 (i : Int), .int .i64 (j : Int)] 34)).alloc (.cells #[.slice none 0 0] 30)
  have R2 := (Row.new (w.alloc (.cells #[.slice oa ss.length cap] 30)) [.int .i64 (i : Int), .int .i64 (j : Int)] 34).alloc (.cells #[.slice none 0 0] 30)
  have R3 := Row.new ((w.alloc (.cells #[.slice oa ss.length cap] 30)).alloc (.cells #[.int .i64 (i : Int), .int .i64 (j : Int)] 34)) [.slice none 0 0] 30
  rw [World.size_alloc] at R2
  rw [World.size_alloc, World.size_alloc] at R3
  have C := Lib.hid (specCopy_any ss oa cap hn hn2 _ (hc.below hb0 (Nat.le_refl _)))
  have HB := Lib.hid hb0
  have HR2 := Lib.hid R2
  have HR3 := Lib.hid R3
  have hil := (List.getElem?_eq_some_iff.1 hs').1
  have hjl := (List.getElem?_eq_some_iff.1 hx).1
  have hml := hn2 s (List.mem_of_getElem? hs')
  have HS := Lib.hid hs'
  have g1 := R1.cell (i := 0) (by rfl)
  clear hc hb0 R1 R2 R3 hs' hx hn2
  go_enter Tryd.func126, Tryd.ntmps126
  go_wp2_with fail
  refine C.out.mono ?_
  rintro e w1 ⟨v, hs, rfl, hO, hb1⟩
  obtain ⟨u, hu⟩ : ∃ u, hs[i]? = some u := ⟨_, List.getElem?_eq_getElem (by rw [hO.len]; exact hil)⟩
  obtain ⟨gs, cs, rfl, hgB, hgl, hcells⟩ : ∃ gs cs, v = .slice (some ⟨gs, 0, none⟩) ss.length cs ∧ _ ≤ gs ∧ gs < w1.heap.size ∧ w1.cell? ⟨gs, i * 2 + 1, none⟩ = some u := by
    have h1 := hO.row
    have hlt := h1.lt
    have hcc := fun g hg => h1.cells (g := g) hg
    obtain ⟨hl, h2 | ⟨g, c, cur, hv, hB, hh, _⟩⟩ := h1
    · have := h2.2; omega
    · subst hv
      have h3 := hcc g rfl _ _ (scRow_at HS.out hu).2
      rw [Addr.add_lit, Nat.zero_add] at h3
      exact ⟨g, c, rfl, hB, (hlt g rfl).2, h3⟩
  have hown := hO.items i s u HS.out hu
  obtain ⟨gi, ci, rfl, hgi, hnci, hcim⟩ : ∃ gi ci, u = .slice (some ⟨gi, 0, none⟩) s.items.length ci ∧ _ ≤ gi ∧ s.items.length ≤ ci ∧ ci ≤ maxLen := by
    obtain ⟨hl, h2 | ⟨g, c, cur, hv, hB, hh, h5, h6, _⟩⟩ := hown
    · have := h2.2; omega
    · exact ⟨g, c, hv, hB, h5, h6⟩
  have hgl2 : gi < w1.heap.size := (hown.lt gi rfl).2
  have hsz0 : (((w.alloc (.cells #[.slice oa ss.length cap] 30)).alloc (.cells #[.int .i64 (i : Int), .int .i64 (j : Int)] 34)).alloc (.cells #[.slice none 0 0] 30)).heap.size = w.heap.size + 3 := by simp
  have hgB' : w.heap.size + 3 ≤ gs := hsz0 ▸ hgB
  have hgi' : w.heap.size + 3 ≤ gi := hsz0 ▸ hgi
  have hbA := (Below.refl w1.heap.size w1).alloc (Nat.le_refl _) (.cells #[.slice (some ⟨gs, 0, none⟩) ss.length cs] 30)
  have HB1 := Lib.hid (HB.out.trans ((hb1.trans (hbA.mono hb1.size)).mono HB.out.size))
  have HO := Lib.hid (hO.below hbA)
  have HR2a := Lib.hid (HR2.out.below (hb1.trans (hbA.mono hb1.size)) HR2.out.lt)
  have HR3a := Lib.hid (HR3.out.below (hb1.trans (hbA.mono hb1.size)) HR3.out.lt)
  have RH := Lib.hid (Row.new w1 [.slice (some ⟨gs, 0, none⟩) ss.length cs] 30)
  obtain ⟨n, hn1⟩ : ∃ n, s.items.length = n + 1 := ⟨s.items.length - 1, by omega⟩
  have k1 := HR2a.out.cell (i := 1) (v := .int .i64 (j : Int)) (by rfl)
  have k0 := HR2a.out.cell (i := 0) (v := .int .i64 (i : Int)) (by rfl)
  have u1 := cell_grow hbA hcells
  have hh0 := RH.out.cell (i := 0) (v := .slice (some ⟨gs, 0, none⟩) ss.length cs) (by rfl)
  -- the items ahead of it and behind it
  have hH : HoldsItems (w1.alloc (.cells #[.slice (some ⟨gs, 0, none⟩) ss.length cs] 30)) (some ⟨gi, 0, none⟩) s.items := by
    obtain ⟨oi, ci', he, hh⟩ := holdsItems_of_owns (HO.out.items i s _ HS.out hu)
    simp only [Value.slice.injEq] at he
    rw [he.1]
    exact hh
  generalize hWA : w1.alloc (.cells #[.slice (some ⟨gs, 0, none⟩) ss.length cs] 30) = wA at *
  have hszA : wA.heap.size = w1.heap.size + 1 := by rw [← hWA]; simp
  have hbE := ((Below.refl wA.heap.size wA).drew).alloc (Nat.le_refl _) (.cells #[] 60)
  have hownE : (wA.drew.alloc (.cells #[] 60)).ownsRow wA.heap.size 60 3 (.slice (some ⟨wA.heap.size, 0, none⟩) 0 0) 0 [] := World.ownsRow_made (base := wA.heap.size) (e := 60) (size := 3) wA.drew #[] 0 (Nat.le_refl _) (by unfold maxLen; omega) rfl
  have hl1 : (s.items.take j).length = j := by rw [List.length_take]; omega
  have hl2 : (s.items.drop (j + 1)).length = n - j := by rw [List.length_drop]; omega
  obtain ⟨v5, w5, hrun5, hown5, hg5⟩ := run_append_items hownE (by show wA.heap.size ≤ _; simp) (ci := ci) (holdsItems_take (hH.below hbE (Nat.le_refl _)) j) (by omega) (by omega) 67
  simp only [Nat.zero_add, List.nil_append, hl1] at hown5 hrun5
  have hb5 : Below wA.heap.size _ w5 := below_grown1 hg5 (by show wA.heap.size ≤ _; simp) (fun r e => by simp only [Value.ownBlock, Option.some.injEq] at e; omega)
  obtain ⟨A, hA, hsrc⟩ : ∃ A : Addr, (if ci = j + 1 then some (⟨gi, 0, none⟩ : Addr) else some ⟨gi, (j + 1) * 3, none⟩) = some A ∧ Hid (HoldsItems w5 (some A) (s.items.drop (j + 1))) := by
    by_cases hcj : ci = j + 1
    · exact ⟨⟨gi, 0, none⟩, by simp [hcj], Lib.hid (.inl (List.eq_nil_of_length_eq_zero (by rw [hl2]; omega)))⟩
    · refine ⟨⟨gi, (j + 1) * 3, none⟩, by simp [hcj], Lib.hid ?_⟩
      have h1 := holdsItems_drop (hH.below (hbE.trans hb5) (Nat.le_refl _)) (j + 1)
      rw [Nat.zero_add] at h1
      exact h1
  have hbEs : wA.heap.size ≤ w5.heap.size := (hbE.trans hb5).size
  obtain ⟨v7, w7, hrun7, hown7, hg7⟩ := run_append_items hown5 hbEs (ci := ci - (j + 1)) hsrc.out (by omega) (by omega) 67
  rw [hl2] at hown7 hrun7
  have hb7 : Below wA.heap.size w5 w7 := below_grown1 hg7 hbEs (fun r e => (hown5.lt r e).1)
  have hbX : Below wA.heap.size wA w7 := (hbE.trans hb5).trans hb7
  have hEL : itemCells (s.items.take j) ++ itemCells (s.items.drop (j + 1)) = itemCells (s.items.eraseIdx j) := by rw [← itemCells_append, List.eraseIdx_eq_take_drop_succ]
  rw [hEL] at hown7
  have hjn : j + (n - j) = (s.items.eraseIdx j).length := by rw [List.length_eraseIdx, if_pos hjl]; omega
  rw [hjn] at hown7
  obtain ⟨o5, c5, rfl⟩ := ownsRow_slice hown5
  obtain ⟨o7, c7, rfl⟩ := ownsRow_slice hown7
  have HG7 : Hid (OwnGr (w7.setCell ⟨gs, i * 2 + 1, none⟩ (.slice o7 (s.items.eraseIdx j).length c7)) (w.heap.size + 3) (.slice (some ⟨gs, 0, none⟩) ss.length cs) (rmvP ss i j) (hs.set i (.slice o7 (s.items.eraseIdx j).length c7))) := Lib.hid (by
    have h1 := HO.out
    rw [hsz0] at h1
    exact OwnGr.rmv2 h1 HS.out hbX (by omega) hown7)
  have HB7 := Lib.hid (HB1.out.trans (hbX.mono HB1.out.size))
  have RH7 := Lib.hid (RH.out.below hbX RH.out.lt)
  have RR7 := Lib.hid (HR3a.out.below hbX HR3a.out.lt)
  obtain ⟨vs7, hRS⟩ : ∃ vs, Row w7 gs 69 vs := by
    obtain ⟨vs, h1⟩ := ownsRow_row HO.out.row
    exact ⟨vs, h1.below hbX h1.lt⟩
  have f7 := hRS.frozen (i * 2 + 1)
  obtain ⟨z7, hz7⟩ : ∃ z, w7.cell? ⟨gs, i * 2 + 1, none⟩ = some z := ⟨_, cell_grow hbX u1⟩
  rw [hszA] at hrun5
  have e0 := hh0
  have e1 := k0
  have e2 := k1
  have hSE := And.intro (cell_grow hbE e0) (And.intro (cell_grow hbE e1) (cell_grow hbE e2))
  have hS5 := And.intro (cell_grow (hbE.trans hb5) e0) (And.intro (cell_grow (hbE.trans hb5) e1) (cell_grow (hbE.trans hb5) e2))
  have hS7 := And.intro (cell_grow hbX e0) (And.intro (cell_grow hbX e1) (cell_grow hbX e2))
  rw [hn1] at u1
  have hi0 : (0 : Int) ≤ (i : Int) := by omega
  have hi1 : (i : Int) < (ss.length : Int) := by omega
  have hjw : IntKind.i64.wrap ((j : Int) + 1) = (j : Int) + 1 := IntWalk.i64_in _ (by omega)
  have hj0 : (0 : Int) ≤ (j : Int) + 1 := by omega
  have hjc : j ≤ ci := by omega
  have hjb : (j : Int) ≤ (n : Int) := by omega
  have HALL := Lib.hid (And.intro hSE (And.intro hS5 (And.intro hS7 (And.intro hrun5 hrun7))))
  have HLT := Lib.hid (And.intro hgl (And.intro hgB' hszA))
  have hbm : ci ≤ 9223372036854775807 := by unfold maxLen at hcim; omega
  have hnj : n + 1 - (j + 1) = n - j := by omega
  clear hO hb1 hu hcells hown hbA hgB hgi hgl hgl2 g1 hgB' hgi' hsz0 hH hbE hownE hl1 hl2 hrun5 hown5 hg5 hb5 hsrc hbEs hrun7 hown7 hg7 hb7 hbX hEL hjn hRS hSE hS5 hS7 e0 e1 e2 hszA hcim
  subst hWA
  go_wp2
  refine wp_region_kept (S := fun w' => w'.cell? ⟨w1.heap.size, 0, none⟩ = some (.slice (some ⟨gs, 0, none⟩) ss.length cs) ∧ w'.cell? ⟨w.heap.size + 1, 0, none⟩ = some (.int .i64 (i : Int)) ∧ w'.cell? ⟨w.heap.size + 1, 1, none⟩ = some (.int .i64 (j : Int))) 18 (by kernel_rfl) ?_
  have hS0 := And.intro (cell_drew hh0) (And.intro (cell_drew k0) (cell_drew k1))
  refine KeptAny.take (i := 0) (v := ?_) (by kernel_rfl) rfl rfl (by kernel_rfl) (by kernel_rfl) (by kernel_rfl) (fun _ _ _ h => h) (by rfl) (fun w' hw' => ?_) (fun _ => rfl) hS0 ?_
  rotate_left
  · (obtain ⟨g0, g1, g2⟩ := hw'; go_simp; try with_reducible rfl)
  refine KeptAny.take (i := 1) (v := ?_) (by kernel_rfl) rfl rfl (by kernel_rfl) (by kernel_rfl) (by kernel_rfl) (fun _ _ _ h => h) (by rfl) (fun w' hw' => ?_) (fun _ => rfl) hS0 ?_
  rotate_left
  · (obtain ⟨g0, g1, g2⟩ := hw'; go_simp; try with_reducible rfl)
  refine KeptAny.take (i := 2) (v := ?_) (by kernel_rfl) rfl rfl (by kernel_rfl) (by kernel_rfl) (by kernel_rfl) (fun _ _ _ h => h) (by rfl) (fun w' hw' => ?_) (fun _ => rfl) hS0 ?_
  rotate_left
  · (obtain ⟨g0, g1, g2⟩ := hw'; go_simp; try with_reducible rfl)
  refine KeptAny.take (i := 3) (v := ?_) (by kernel_rfl) rfl rfl (by kernel_rfl) (by kernel_rfl) (by kernel_rfl) (fun _ _ _ h => h) (by rfl) (fun w' hw' => ?_) (fun _ => rfl) hS0 ?_
  rotate_left
  · (obtain ⟨g0, g1, g2⟩ := hw'; go_simp; try with_reducible rfl)
  refine KeptAny.take (i := 5) (v := ?_) (by kernel_rfl) rfl rfl (by kernel_rfl) (by kernel_rfl) (by kernel_rfl) (fun _ _ _ h => h) (by rfl) (fun w' hw' => ?_) (fun _ => rfl) hS0 ?_
  rotate_left
  · (obtain ⟨g0, g1, g2⟩ := hw'; go_simp; try with_reducible rfl)
  refine KeptAny.take (i := 6) (v := ?_) (by kernel_rfl) rfl rfl (by kernel_rfl) (by kernel_rfl) (by kernel_rfl) (fun _ _ _ h => h) (by rfl) (fun w' hw' => ?_) (fun _ => rfl) hS0 ?_
  rotate_left
  · (obtain ⟨g0, g1, g2⟩ := hw'; go_simp; try with_reducible rfl)
  refine KeptAny.take (i := 7) (v := ?_) (by kernel_rfl) rfl rfl (by kernel_rfl) (by kernel_rfl) (by kernel_rfl) (fun _ _ _ h => h) (by rfl) (fun w' hw' => ?_) (fun _ => rfl) hS0 ?_
  rotate_left
  · (obtain ⟨g0, g1, g2⟩ := hw'; go_simp; try with_reducible rfl)
  refine KeptAny.take (i := 8) (v := ?_) (by kernel_rfl) rfl rfl (by kernel_rfl) (by kernel_rfl) (by kernel_rfl) (fun _ _ _ h => h) (by rfl) (fun w' hw' => ?_) (fun _ => rfl) hS0 ?_
  rotate_left
  · (obtain ⟨g0, g1, g2⟩ := hw'; go_simp; try with_reducible rfl)
  refine KeptAny.take (i := 10) (v := ?_) (by kernel_rfl) rfl rfl (by kernel_rfl) (by kernel_rfl) (by kernel_rfl) (fun _ _ _ h => h) (by rfl) (fun w' hw' => ?_) (fun _ => rfl) hS0 ?_
  rotate_left
  · (obtain ⟨g0, g1, g2⟩ := hw'; go_simp; try with_reducible rfl)
  refine KeptAny.take (i := 11) (v := ?_) (by kernel_rfl) rfl rfl (by kernel_rfl) (by kernel_rfl) (by kernel_rfl) (fun _ _ _ h => h) (by rfl) (fun w' hw' => ?_) (fun _ => rfl) hS0 ?_
  rotate_left
  · (obtain ⟨g0, g1, g2⟩ := hw'; go_simp; try with_reducible rfl)
  refine KeptAny.take (i := 12) (v := ?_) (by kernel_rfl) rfl rfl (by kernel_rfl) (by kernel_rfl) (by kernel_rfl) (fun _ _ _ h => h) (by rfl) (fun w' hw' => ?_) (fun _ => rfl) hS0 ?_
  rotate_left
  · (obtain ⟨g0, g1, g2⟩ := hw'; go_simp; try with_reducible rfl)
  refine KeptAny.take (i := 13) (v := ?_) (by kernel_rfl) rfl rfl (by kernel_rfl) (by kernel_rfl) (by kernel_rfl) (fun _ _ _ h => h) (by rfl) (fun w' hw' => ?_) (fun _ => rfl) hS0 ?_
  rotate_left
  · (obtain ⟨g0, g1, g2⟩ := hw'; go_simp; try with_reducible rfl)
  refine KeptAny.take (i := 14) (v := ?_) (by kernel_rfl) rfl rfl (by kernel_rfl) (by kernel_rfl) (by kernel_rfl) (fun _ _ _ h => h) (by rfl) (fun w' hw' => ?_) (fun _ => rfl) hS0 ?_
  rotate_left
  · (obtain ⟨g0, g1, g2⟩ := hw'; go_simp; try with_reducible rfl)
  refine KeptAny.one (i := 4) (by kernel_rfl) rfl (by rfl) (fun K hK => ?_)
  go_simp
  refine hK.out _ _ HALL.out.1 (fun _ => ?_)
  clear hK hS0
  refine KeptAny.one (i := 9) (by kernel_rfl) rfl (by rfl) (fun K hK => ?_)
  refine wpIn_append_run _ _ 67 rfl rfl HALL.out.2.2.2.1 ?_
  refine hK.out _ _ HALL.out.2.1 (fun _ => ?_)
  clear hK
  refine KeptAny.one (i := 15) (by kernel_rfl) rfl (by rfl) (fun K hK => ?_)
  refine wpIn_append_run _ _ 67 rfl rfl HALL.out.2.2.2.2 ?_
  refine hK.out _ _ HALL.out.2.2.1 (fun _ => ?_)
  clear hK
  refine KeptAny.one (i := 16) (by kernel_rfl) rfl (by rfl) (fun K hK => ?_)
  go_simp
  refine hK.out _ _ HALL.out.2.2.1 (fun _ => ?_)
  clear hK
  refine KeptAny.one (i := 17) (by kernel_rfl) rfl (by rfl) (fun K hK => ?_)
  go_simp
  refine hK.out _ _ HALL.out.2.2.1 (fun _ => ?_)
  clear hK
  refine KeptAny.last (by kernel_rfl) rfl (by rfl) (fun K hK => ?_)
  go_simp
  refine hK.out _ _ ?_
  clear hK
  refine KeptAny.done (by kernel_rfl) ?_ _
  have hB5 := Lib.hid (HB7.out.setCell (p := ⟨gs, i * 2 + 1, none⟩) (by have := HLT.out; show w.heap.size ≤ gs; omega) (.slice o7 (s.items.eraseIdx j).length c7))
  have r0 := (RH7.out.other (a := ⟨gs, i * 2 + 1, none⟩) (by have := HLT.out; show gs ≠ w1.heap.size; omega) (.slice o7 (s.items.eraseIdx j).length c7)).cell (i := 0) (v := .slice (some ⟨gs, 0, none⟩) ss.length cs) (by rfl)
  have RR5 := Lib.hid (RR7.out.other (a := ⟨gs, i * 2 + 1, none⟩) (by have := HLT.out; show gs ≠ w.heap.size + 1 + 1; omega) (.slice o7 (s.items.eraseIdx j).length c7))
  have n0 := RR5.out.cell (i := 0) (v := .slice none 0 0) (by rfl)
  have f0 := RR5.out.frozen 0
  clear f7 hz7
  generalize w7.setCell ⟨gs, i * 2 + 1, none⟩ (.slice o7 (s.items.eraseIdx j).length c7) = wB at *
  go_wp2
  have RT := RR5.out.set 0 (.slice (some ⟨gs, 0, none⟩) ss.length cs)
  have d0 := RT.cell (i := 0) (v := .slice (some ⟨gs, 0, none⟩) ss.length cs) (by rfl)
  refine bodyPost_ret (v := .agg #[.slice (some ⟨gs, 0, none⟩) ss.length cs]) (by simp [results, Tryd.results126, go_sem, d0]) rfl ⟨_, hs.set i (.slice o7 (s.items.eraseIdx j).length c7), rfl, ?_, hB5.out.setCell (by simp; omega) _⟩
  refine OwnGr.lower (B := w.heap.size + 3) ?_ (by omega)
  exact ⟨HG7.out.len, ownsRow_otherN HG7.out.row RR5.out (by decide) 0 _, fun k t z h1 h2 => ownsRow_otherN (HG7.out.items k t z h1 h2) RR5.out (by decide) 0 _, HG7.out.apart⟩
end Go.Proofs.YtppgdigcopkeiaaDoor
namespace Go.Proofs.YtppgdigcopkeiaaDoor
open Go Go.RowKit
theorem eqPlace_self (a b : Int) (w : World) :
    Calls Tryd.prog 85 #[.agg #[.int .i64 a, .int .i64 b], .agg #[.int .i64 a, .int .i64 b]] w fun e w' => e = .returned (.bool true) ∧ Below w.heap.size w w' :=
  (eqPlace_any a b a b w).mono fun _ _ h => by simpa using h
end Go.Proofs.YtppgdigcopkeiaaDoor
namespace Go.Proofs.YtppgdigcopkeiaaDoor
open Go Go.RowKit
/-- What markText answers. -/
def markD : Nat → Nat → ByteArray → ByteArray
  | 0, _, out => out
  | f + 1, k, out => if k = 0 then out else markD f (k / 10) (strOfNums [48 + (k : Int) % 10] ++ out)
def markStr (n : Nat) : ByteArray := ByteArray.mk #[109] ++ markD n n ByteArray.empty
theorem markD_zero (f : Nat) (out : ByteArray) : markD f 0 out = out := by cases f <;> simp [markD]
set_option maxRecDepth 100000 in
set_option maxHeartbeats 1600000 in
theorem markText_is (n : Nat) (w : World) (h1 : 1 ≤ n) (hn : n ≤ 1099511627776) :
    Calls Tryd.prog 163 #[.int .i64 (n : Int)] w fun e w' => e = .returned (.string (markStr n)) ∧ Below w.heap.size w w' := by
  have k0 : decide (((n : Nat) : Int) ≤ 0) = false := by simp; omega
  go_enter Tryd.func163, Tryd.ntmps163
  go_wp2
  go_loopw [0, 3] (fun v s wr => ∃ (k f : Nat) (out : ByteArray), v = .int .i64 k ∧ s = .string out ∧ k ≤ n ∧ k ≤ f ∧ out.size ≤ 13 ∧ Hid (k * 10 ^ out.size ≤ n) ∧ Hid (markD f k out = markD n n ByteArray.empty) ∧ Below w.heap.size w wr) (fun v _ _ => (intOf v).toNat)
  case atStart => exact ⟨n, n, ByteArray.empty, rfl, rfl, Nat.le_refl _, Nat.le_refl _, by simp, Lib.hid (by simp), Lib.hid rfl, Below.refl _ _⟩
  case round =>
    obtain ⟨k, f, out, rfl, rfl, hk, hf, hsz, hd, hm, hb⟩ := hrel
    by_cases hlt : (0 : Int) < (k : Int)
    · have hconv := fun x => conv_byte wr x
      have h12 : out.size ≤ 12 := pow_small (by omega) hd.out hn
      have hs1 : (strOfNums [48 + (k : Int) % 10]).size = 1 := by rw [strOfNums_size]; rfl
      have hsum : (strOfNums [48 + (k : Int) % 10]).size + out.size ≤ 21 := by omega
      have HS : Hid ((strOfNums [48 + (k : Int) % 10] ++ out).size = out.size + 1) := Lib.hid (by rw [ByteArray.size_append, hs1]; omega)
      obtain ⟨f', rfl⟩ : ∃ f', f = f' + 1 := ⟨f - 1, by omega⟩
      have HM : Hid (markD f' (k / 10) (strOfNums [48 + (k : Int) % 10] ++ out) = markD n n ByteArray.empty) := Lib.hid (by
        have h := hm.out
        rw [show markD (f' + 1) k out = if k = 0 then out else markD f' (k / 10) (strOfNums [48 + (k : Int) % 10] ++ out) from rfl, if_neg (by omega)] at h
        exact h)
      clear hs1 hm
      go_wp2
      go_roundw
      case rel => exact ⟨k / 10, f', _, by go_num, rfl, by omega, by omega, by rw [HS.out]; omega, Lib.hid (by rw [HS.out]; exact pow_step hd.out), HM, hb.alloc hb.size _⟩
      case measure => simp only [intOf]; omega
    · obtain rfl : k = 0 := by omega
      have HE : Hid (markD n n ByteArray.empty = out) := Lib.hid (by rw [← hm.out, markD_zero])
      have hc : (ByteArray.mk #[109]).size + out.size ≤ 40 := by show 1 + out.size ≤ 40; omega
      clear hm
      go_wp2
      go_ret
      exact ⟨by unfold markStr; rw [HE.out]; rfl, hb⟩
theorem markText_z (z : Int) (n : Nat) (w : World) (hz : z = (n : Int)) (h1 : 1 ≤ n) (hn : n ≤ 1099511627776) :
    Calls Tryd.prog 163 #[.int .i64 z] w fun e w' => e = .returned (.string (markStr n)) ∧ Below w.heap.size w w' := by
  subst hz
  exact markText_is n w h1 hn
theorem markD_size : ∀ (f k : Nat) (out : ByteArray), (markD f k out).size ≤ out.size + f
  | 0, _, _ => Nat.le_refl _
  | f + 1, k, out => by
    unfold markD
    split
    · omega
    · have h := markD_size f (k / 10) (strOfNums [48 + (k : Int) % 10] ++ out)
      rw [ByteArray.size_append, strOfNums_size] at h
      simp only [List.length_cons, List.length_nil] at h
      omega
/-- Items that are marked from k on. -/
def MarkedIt (w : World) (v : Value) (n k : Nat) : Prop := ∃ oa cap, v = .slice oa n cap ∧ (n = 0 ∨ ∃ g us, oa = some ⟨g, 0, none⟩ ∧ Row w g 60 us ∧
  ∀ i, i < n → us[i * 3]? = some (.int .i64 ((k : Int) + 3 * (i : Int))) ∧ us[i * 3 + 1]? = some (.string (markStr (k + 3 * i + 1))) ∧ us[i * 3 + 2]? = some (.int .i64 ((k : Int) + 3 * (i : Int) + 2)))
theorem MarkedIt.grown {w w' : World} {v : Value} {n k : Nat} {row : Option Nat} (h : MarkedIt w v n k) (hg : w.grownBy w' row) (hne : v.ownBlock = none ∨ v.ownBlock ≠ row) : MarkedIt w' v n k := by
  obtain ⟨oa, cap, rfl, h | ⟨g, us, rfl, h2, h3⟩⟩ := h
  · exact ⟨oa, cap, rfl, .inl h⟩
  · refine ⟨_, cap, rfl, .inr ⟨g, us, rfl, h2.grown hg ?_, h3⟩⟩
    rcases hne with h | h
    · simp [Value.ownBlock] at h
    · exact h
theorem MarkedIt.set {w : World} {v x : Value} {n k g i : Nat} {cells : List Value} (h : MarkedIt w v n k) (hr : Row w g 69 cells) : MarkedIt (w.setCell ⟨g, i, none⟩ x) v n k := by
  obtain ⟨oa, cap, rfl, h | ⟨gi, us, rfl, h2, h3⟩⟩ := h
  · exact ⟨oa, cap, rfl, .inl h⟩
  · exact ⟨_, cap, rfl, .inr ⟨gi, us, rfl, h2.other (a := ⟨g, i, none⟩) (hr.neq h2 (by decide)) x, h3⟩⟩
theorem MarkedIt.below {w w' : World} {v : Value} {n k : Nat} (h : MarkedIt w v n k) (hb : Below w.heap.size w w') : MarkedIt w' v n k := by
  obtain ⟨oa, cap, rfl, h | ⟨g, us, rfl, h2, h3⟩⟩ := h
  · exact ⟨oa, cap, rfl, .inl h⟩
  · exact ⟨_, cap, rfl, .inr ⟨g, us, rfl, h2.below hb h2.lt, h3⟩⟩
theorem grownBy_of_turns {w w' : World} {g : Nat} (h : Turns w w' g g) : w.grownBy w' (some g) := ⟨h.os, h.tape, h.output, h.size, fun k hk hne => h.rest k hk (fun e => hne (by rw [e])) (fun e => hne (by rw [e]))⟩
set_option maxRecDepth 100000 in
set_option maxHeartbeats 3200000 in
theorem markItemS_own (u : Value) (B n k : Nat) (xs : List Value) (w : World) (hn : n ≤ 1048576) (h1 : k ≤ 1099000000000) (h : w.ownsRow B 60 3 u n xs) :
    Calls Tryd.prog 131 #[u, .int .i64 (k : Int)] w fun e w' => e = .returned (.int .i64 ((k : Int) + 3 * (n : Int))) ∧ MarkedIt w' u n k ∧ w.grownBy w' u.ownBlock := by
  obtain ⟨hl, ⟨rfl, rfl⟩ | ⟨g, cap, cur, rfl, hB, hh, hnc, _, hs, ht⟩⟩ := h
  · go_enter Tryd.func131, Tryd.ntmps131
    go_wp2
    go_loopw [1, 5] (fun kv i wr => kv = .int .i64 (k : Int) ∧ i = .int .i64 0 ∧ wr = w) (fun _ _ _ => 0)
    case atStart => exact ⟨rfl, rfl, rfl⟩
    case round =>
      obtain ⟨rfl, rfl, rfl⟩ := hrel
      go_wp2
      go_ret
      exact ⟨by simp, ⟨none, 0, rfl, .inl rfl⟩, ⟨rfl, rfl, rfl, Nat.le_refl _, fun _ _ _ => rfl⟩⟩
  · have HR0 : Hid (Row w g 60 cur.toList) := Lib.hid (by unfold Row; rw [hh])
    have hvl : 3 * n ≤ cur.toList.length := by rw [Array.length_toList]; omega
    generalize cur.toList = vs at *
    clear hl hh hs ht
    go_enter Tryd.func131, Tryd.ntmps131
    go_wp2
    go_loopw [1, 5] (fun kv i wr => ∃ (j : Nat) (us : List Value), kv = .int .i64 ((k : Int) + 3 * (j : Int)) ∧ i = .int .i64 j ∧ j ≤ n ∧ us.length = vs.length ∧ Hid (∀ i, i < j → us[i * 3]? = some (.int .i64 ((k : Int) + 3 * (i : Int))) ∧ us[i * 3 + 1]? = some (.string (markStr (k + 3 * i + 1))) ∧ us[i * 3 + 2]? = some (.int .i64 ((k : Int) + 3 * (i : Int) + 2))) ∧ Row wr g 60 us ∧ Turns w wr g g) (fun _ i _ => n - (intOf i).toNat)
    case atStart => exact ⟨0, vs, by simp, rfl, Nat.zero_le _, rfl, Lib.hid (fun i hi => absurd hi (by omega)), HR0.out, Turns.id _ _⟩
    case round =>
      obtain ⟨j, us, rfl, rfl, hj, hul, hus, hR, hT⟩ := hrel
      by_cases hlt : j < n
      · obtain ⟨u0, hu0⟩ : ∃ u, us[j * 3]? = some u := ⟨_, List.getElem?_eq_getElem (by omega)⟩
        obtain ⟨u1, hu1⟩ : ∃ u, us[j * 3 + 1]? = some u := ⟨_, List.getElem?_eq_getElem (by omega)⟩
        obtain ⟨u2, hu2⟩ : ∃ u, us[j * 3 + 2]? = some u := ⟨_, List.getElem?_eq_getElem (by omega)⟩
        have c0 := hR.cell hu0
        have f0 := hR.frozen (j * 3)
        have HR := Lib.hid hR
        have HT := Lib.hid hT
        have HU := Lib.hid (And.intro hul (And.intro hu1 hu2))
        have HV := Lib.hid hvl
        clear hu0 hu1 hu2 hR hT hul hvl
        go_wp2_with fail
        refine (markText_z _ (k + 3 * j + 1) _ (by omega) (by omega) (by omega)).mono ?_
        rintro e w2 ⟨rfl, hb⟩
        have hR1 := HR.out.set (j * 3) (.int .i64 ((k : Int) + 3 * (j : Int)))
        have HR2 := Lib.hid (hR1.below hb hR1.lt)
        have HT2 : Hid (Turns w w2 g g) := Lib.hid ((HT.out.trans (Turns.set _ _ _ _)).trans (.of_below hb))
        have c1 := HR2.out.cell (i := j * 3 + 1) (v := u1) (by rw [List.getElem?_set_ne (by omega)]; exact HU.out.2.1)
        have f1 := HR2.out.frozen (j * 3 + 1)
        have c2 := HR2.out.cell (i := j * 3 + 2) (v := u2) (by rw [List.getElem?_set_ne (by omega)]; exact HU.out.2.2)
        have f2 := HR2.out.frozen (j * 3 + 2)
        have HNEW : Hid (∀ i, i < j + 1 → (((us.set (j * 3) (.int .i64 ((k : Int) + 3 * (j : Int)))).set (j * 3 + 1) (.string (markStr (k + 3 * j + 1)))).set (j * 3 + 2) (.int .i64 ((k : Int) + 3 * (j : Int) + 2)))[i * 3]? = some (.int .i64 ((k : Int) + 3 * (i : Int))) ∧
            (((us.set (j * 3) (.int .i64 ((k : Int) + 3 * (j : Int)))).set (j * 3 + 1) (.string (markStr (k + 3 * j + 1)))).set (j * 3 + 2) (.int .i64 ((k : Int) + 3 * (j : Int) + 2)))[i * 3 + 1]? = some (.string (markStr (k + 3 * i + 1))) ∧
            (((us.set (j * 3) (.int .i64 ((k : Int) + 3 * (j : Int)))).set (j * 3 + 1) (.string (markStr (k + 3 * j + 1)))).set (j * 3 + 2) (.int .i64 ((k : Int) + 3 * (j : Int) + 2)))[i * 3 + 2]? = some (.int .i64 ((k : Int) + 3 * (i : Int) + 2))) := Lib.hid (by
          intro i hi
          have hlen : 3 * j + 3 ≤ us.length := by have := HU.out.1; have := HV.out; omega
          by_cases he : i = j
          · subst he
            refine ⟨?_, ?_, ?_⟩
            · rw [List.getElem?_set_ne (by omega), List.getElem?_set_ne (by omega), List.getElem?_set_self (by omega)]
            · rw [List.getElem?_set_ne (by omega), List.getElem?_set_self (by rw [List.length_set]; omega)]
            · rw [List.getElem?_set_self (by rw [List.length_set, List.length_set]; omega)]
          · obtain ⟨q0, q1, q2⟩ := hus.out i (by omega)
            refine ⟨?_, ?_, ?_⟩
            · rw [List.getElem?_set_ne (by omega), List.getElem?_set_ne (by omega), List.getElem?_set_ne (by omega)]; exact q0
            · rw [List.getElem?_set_ne (by omega), List.getElem?_set_ne (by omega), List.getElem?_set_ne (by omega)]; exact q1
            · rw [List.getElem?_set_ne (by omega), List.getElem?_set_ne (by omega), List.getElem?_set_ne (by omega)]; exact q2)
        clear hR1 hb hus
        generalize markStr (k + 3 * j + 1) = ms at *
        go_wp2
        go_roundw
        case rel => exact ⟨j + 1, _, by go_num, by go_num, by omega, by rw [List.length_set, List.length_set, List.length_set]; exact HU.out.1, HNEW, (HR2.out.set (j * 3 + 1) _).set (j * 3 + 2) _, (HT2.out.trans (Turns.set _ _ _ _)).trans (Turns.set _ _ _ _)⟩
        case measure => simp only [intOf]; omega
      · obtain rfl : j = n := by omega
        have HP := Lib.hid (And.intro hT (And.intro hR hus.out))
        clear hT hR hul hus
        go_wp2
        go_ret
        exact ⟨rfl, ⟨_, cap, rfl, .inr ⟨g, us, rfl, HP.out.2.1, HP.out.2.2⟩⟩, grownBy_of_turns HP.out.1⟩
set_option maxRecDepth 100000 in
set_option maxHeartbeats 3200000 in
theorem heldItemS_marked (u : Value) (n k : Nat) (w : World) (hn : n ≤ 1048576) (h1 : k ≤ 1099000000000) (h : MarkedIt w u n k) :
    Calls Tryd.prog 132 #[u, .int .i64 (k : Int)] w fun e w' => e = .returned (.int .i64 ((k : Int) + 3 * (n : Int))) ∧ Below w.heap.size w w' := by
  obtain ⟨oa, cap, rfl, h⟩ := h
  have H := Lib.hid h
  clear h
  go_enter Tryd.func132, Tryd.ntmps132
  go_wp2
  go_loopw [1, 5] (fun kv i wr => ∃ j : Nat, kv = .int .i64 ((k : Int) + 3 * (j : Int)) ∧ i = .int .i64 j ∧ j ≤ n ∧ Below w.heap.size w wr) (fun _ i _ => n - (intOf i).toNat)
  case atStart => exact ⟨0, by simp, rfl, Nat.zero_le _, Below.refl _ _⟩
  case round =>
    obtain ⟨j, rfl, rfl, hj, hb⟩ := hrel
    by_cases hlt : j < n
    · rcases H.out with h | ⟨g, vs, rfl, hR, hvs⟩
      · omega
      · obtain ⟨q0, q1, q2⟩ := hvs j hlt
        have c0 := (hb.cell (p := ⟨g, j * 3, none⟩) hR.lt).trans (hR.cell q0)
        have c1 := (hb.cell (p := ⟨g, j * 3 + 1, none⟩) hR.lt).trans (hR.cell q1)
        have hq : (((k : Int) + 3 * (j : Int)) != ((k : Int) + 3 * (j : Int))) = false := by simp
        have D : ∀ d os, Calls Tryd.prog 163 #[.int .i64 ((k : Int) + 3 * (j : Int) + 1)] (Sort.grow (redrawn wr d) os) fun e w'' => e = .returned (.string (markStr (k + 3 * j + 1))) ∧ ∃ q : Regrown, w'' = Sort.grow (redrawn wr q.d) q.os :=
          fun d os => Calls.regrown_of (markText_z _ (k + 3 * j + 1) _ (by omega) (by omega) (by omega))
        have HROW := Lib.hid (And.intro hR q2)
        have HB := Lib.hid hb
        clear hR hvs q0 q1 q2 hb
        generalize markStr (k + 3 * j + 1) = ms at *
        have hss : (ms.toList != ms.toList) = false := by simp
        have e1 := cell_regrown c1
        go_wp2
        refine wp_region_quiet_below (by kernel_rfl) (by kernel_rfl) ?_
        repeat (first | go_big_quiet_step (exact D _ _) | quiet_step (exact D _ _))
        refine wpQuiet_nil ?_
        intro _ hw'
        obtain ⟨⟨dq, osq⟩, hw''⟩ := hw'
        subst hw''
        have HBE := Lib.hid (HB.out.trans ((below_regrown wr dq osq).mono HB.out.size))
        have c2 := (HBE.out.cell (p := ⟨g, j * 3 + 2, none⟩) HROW.out.1.lt).trans (HROW.out.1.cell HROW.out.2)
        have hq2 : (((k : Int) + 3 * (j : Int) + 2) != ((k : Int) + 3 * (j : Int) + 2)) = false := by simp
        clear D e1 c0 c1
        generalize Sort.grow (redrawn wr dq) osq = wx at *
        go_wp2
        go_roundw
        case rel => exact ⟨j + 1, by go_num, by go_num, by omega, HBE.out⟩
        case measure => simp only [intOf]; omega
    · obtain rfl : j = n := by omega
      go_wp2
      go_ret
      exact ⟨rfl, hb⟩
theorem markItemS_z (u : Value) (B n k : Nat) (xs : List Value) (w : World) (hn : n ≤ 1048576) (h1 : k ≤ 1099000000000) (h : w.ownsRow B 60 3 u n xs) (z : Int) (hz : z = (k : Int)) :
    Calls Tryd.prog 131 #[u, .int .i64 z] w fun e w' => e = .returned (.int .i64 ((k : Int) + 3 * (n : Int))) ∧ MarkedIt w' u n k ∧ w.grownBy w' u.ownBlock := by
  subst hz
  exact markItemS_own u B n k xs w hn h1 h
theorem heldItemS_z (u : Value) (n k : Nat) (w : World) (hn : n ≤ 1048576) (h1 : k ≤ 1099000000000) (h : MarkedIt w u n k) (z : Int) (hz : z = (k : Int)) :
    Calls Tryd.prog 132 #[u, .int .i64 z] w fun e w' => e = .returned (.int .i64 ((k : Int) + 3 * (n : Int))) ∧ Below w.heap.size w w' := by
  subst hz
  exact heldItemS_marked u n k w hn h1 h
/-- While a graph's scopes are marked. -/
structure MarkRun (w0 w : World) (B g : Nat) (us : List Sc) (hs : List Value) (k j : Nat) (cells : List Value) : Prop where
  row : Row w g 69 cells
  len : 2 * us.length ≤ cells.length
  heads : ∀ i u, hs[i]? = some u → cells[i * 2 + 1]? = some u
  done : ∀ i s u, i < j → us[i]? = some s → hs[i]? = some u → cells[i * 2]? = some (.int .i64 ((k : Int) + (marks (us.take i) : Int))) ∧ MarkedIt w u s.items.length (k + marks (us.take i) + 1)
  todo : ∀ i s u, j ≤ i → us[i]? = some s → hs[i]? = some u → ∃ xs, w.ownsRow B 60 3 u s.items.length xs
  below : Below B w0 w
  keep : ∀ (T : Nat) (t : TypeId) (vs : List Value), Row w0 T t vs → t ≠ 69 → t ≠ 60 → Row w T t vs
/-- A graph that is marked from k on. -/
def MarkedGr (w : World) (v : Value) (us : List Sc) (k : Nat) : Prop := ∃ oa cap, v = .slice oa us.length cap ∧ (us.length = 0 ∨ ∃ (g : Nat) (cells hs : List Value), oa = some ⟨g, 0, none⟩ ∧ Row w g 69 cells ∧ hs.length = us.length ∧
  ∀ (i : Nat) (s : Sc) (u : Value), us[i]? = some s → hs[i]? = some u → cells[i * 2]? = some (.int .i64 ((k : Int) + (marks (us.take i) : Int))) ∧ cells[i * 2 + 1]? = some u ∧ MarkedIt w u s.items.length (k + marks (us.take i) + 1))
theorem MarkedGr.below {w w' : World} {v : Value} {us : List Sc} {k : Nat} (h : MarkedGr w v us k) (hb : Below w.heap.size w w') : MarkedGr w' v us k := by
  obtain ⟨oa, cap, rfl, h | ⟨g, cells, hs, rfl, h2, h3, h4⟩⟩ := h
  · exact ⟨oa, cap, rfl, .inl h⟩
  · exact ⟨_, cap, rfl, .inr ⟨g, cells, hs, rfl, h2.below hb h2.lt, h3, fun i s u q1 q2 => by obtain ⟨a, b, c⟩ := h4 i s u q1 q2; exact ⟨a, b, c.below hb⟩⟩⟩
theorem below_of_grown {w w' : World} {B : Nat} {row : Option Nat} (hg : w.grownBy w' row) (hB : B ≤ w.heap.size) (hr : ∀ g, row = some g → B ≤ g) : Below B w w' :=
  ⟨hg.os, hg.tape, hg.output, hg.size, fun b hb => hg.block b (Nat.lt_of_lt_of_le hb hB) (fun e => by have := hr b e.symm; omega)⟩
/-- One scope more is marked. -/
theorem MarkRun.step {w0 w w' : World} {B g k j cap : Nat} {us : List Sc} {hs cells : List Value} (hO : OwnGr w0 B (.slice (some ⟨g, 0, none⟩) us.length cap) us hs) (h : MarkRun w0 w B g us hs k j cells) {s : Sc} {u : Value} (hs' : us[j]? = some s) (hu : hs[j]? = some u) (hB : B ≤ w0.heap.size) (hBg : B ≤ g)
    (hgr : (w.setCell ⟨g, j * 2, none⟩ (.int .i64 ((k : Int) + (marks (us.take j) : Int)))).grownBy w' u.ownBlock) (hm : MarkedIt w' u s.items.length (k + marks (us.take j) + 1)) :
    MarkRun w0 w' B g us hs k (j + 1) (cells.set (j * 2) (.int .i64 ((k : Int) + (marks (us.take j) : Int)))) := by
  obtain ⟨xs, hown⟩ := h.todo j s u (Nat.le_refl _) hs' hu
  have hjl := (List.getElem?_eq_some_iff.1 hs').1
  have hR1 := h.row.set (j * 2) (.int .i64 ((k : Int) + (marks (us.take j) : Int)))
  have hown1 := ownsRow_otherN hown h.row (by decide) (j * 2) (.int .i64 ((k : Int) + (marks (us.take j) : Int)))
  have hb1 : Below B w0 (w.setCell ⟨g, j * 2, none⟩ (.int .i64 ((k : Int) + (marks (us.take j) : Int)))) := h.below.setCell hBg _
  refine ⟨hR1.grown hgr (ownsRow_ne2 hR1 (by decide) hown1), by rw [List.length_set]; exact h.len, fun i v hv => ?_, fun i t v hi ht hv => ?_, fun i t v hi ht hv => ?_, ?_, fun T t vs hr n1 n2 => ?_⟩
  · rw [List.getElem?_set_ne (by omega)]; exact h.heads i v hv
  · by_cases he : i = j
    · subst he
      rw [hs'] at ht; cases ht
      rw [hu] at hv; cases hv
      exact ⟨List.getElem?_set_self (by have := h.len; omega), hm⟩
    · obtain ⟨a, b⟩ := h.done i t v (by omega) ht hv
      exact ⟨by rw [List.getElem?_set_ne (by omega)]; exact a, (b.set h.row).grown hgr (hO.apart i j v u he hv hu)⟩
  · obtain ⟨ys, hy⟩ := h.todo i t v (by omega) ht hv
    exact ⟨ys, ownsRow_apart (ownsRow_otherN hy h.row (by decide) (j * 2) _) hgr (hO.apart i j v u (by omega) hv hu)⟩
  · exact hb1.trans (below_of_grown hgr (Nat.le_trans hB hb1.size) (fun gg e => (hown1.lt gg e).1))
  · have hr1 := (h.keep T t vs hr n1 n2).other (a := ⟨g, j * 2, none⟩) (h.row.neq (h.keep T t vs hr n1 n2) (Ne.symm n1)) (.int .i64 ((k : Int) + (marks (us.take j) : Int)))
    exact hr1.grown hgr (ownsRow_ne2 hr1 n2 hown1)
set_option maxRecDepth 100000 in
set_option maxHeartbeats 3200000 in
theorem markScopeS_own (v : Value) (B : Nat) (us : List Sc) (hs : List Value) (k : Nat) (w : World) (hB : B ≤ w.heap.size) (hl : us.length ≤ 1000000) (hil : ∀ s ∈ us, s.items.length ≤ 1048576) (hm : marks us ≤ 1000000000) (h1 : k ≤ 1048576) (hO : OwnGr w B v us hs) :
    Calls Tryd.prog 79 #[v, .int .i64 (k : Int)] w fun e w' => e = .returned (.int .i64 ((k : Int) + (marks us : Int))) ∧ MarkedGr w' v us k ∧ Below B w w' ∧ (∀ (T : Nat) (t : TypeId) (vs : List Value), Row w T t vs → t ≠ 69 → t ≠ 60 → Row w' T t vs) := by
  have HO := Lib.hid hO
  obtain ⟨hlen, hrow, -, -⟩ := hO
  obtain ⟨hll, ⟨rfl, h0⟩ | ⟨g, cap, cur, rfl, hBg, hh, hnc, _, hsz, htk⟩⟩ := hrow
  · obtain rfl := List.eq_nil_of_length_eq_zero h0
    go_enter Tryd.func79, Tryd.ntmps79
    go_wp2
    go_loopw [1, 5] (fun kv i wr => kv = .int .i64 (k : Int) ∧ i = .int .i64 0 ∧ wr = w) (fun _ _ _ => 0)
    case atStart => exact ⟨rfl, rfl, rfl⟩
    case round =>
      obtain ⟨rfl, rfl, rfl⟩ := hrel
      go_wp2
      go_ret
      exact ⟨by simp [marks], ⟨none, 0, rfl, .inl rfl⟩, Below.refl _ _, fun _ _ _ h _ _ => h⟩
  · have HR0 : Hid (MarkRun w w B g us hs k 0 cur.toList) := Lib.hid (by
      have hrw : Row w g 69 cur.toList := by unfold Row; rw [hh]
      have h9 : cur.toList.length = cap * 2 := by rw [Array.length_toList]; exact hsz
      refine ⟨hrw, by rw [h9]; omega, fun i u hu => ?_, fun i s u hi => absurd hi (Nat.not_lt_zero _), fun i s u _ h1 h2 => ⟨_, HO.out.items i s u h1 h2⟩, Below.refl _ _, fun _ _ _ h _ _ => h⟩
      obtain ⟨s, hs'⟩ : ∃ s, us[i]? = some s := ⟨_, List.getElem?_eq_getElem (by have := (List.getElem?_eq_some_iff.1 hu).1; omega)⟩
      have h2 := (scRow_at hs' hu).2
      rw [← htk, List.getElem?_take] at h2
      split at h2
      · exact h2
      · cases h2)
    have HL := Lib.hid (And.intro hlen (And.intro hB (And.intro hBg hil)))
    generalize cur.toList = cells0 at *
    clear hll hh hsz htk hlen hB hBg hil
    go_enter Tryd.func79, Tryd.ntmps79
    go_wp2
    go_loopw [1, 5] (fun kv i wr => ∃ (j : Nat) (cells : List Value), kv = .int .i64 ((k : Int) + (marks (us.take j) : Int)) ∧ i = .int .i64 j ∧ j ≤ us.length ∧ Hid (MarkRun w wr B g us hs k j cells)) (fun _ i _ => us.length - (intOf i).toNat)
    case atStart => exact ⟨0, cells0, by simp [marks], rfl, Nat.zero_le _, HR0⟩
    case round =>
      obtain ⟨j, cells, rfl, rfl, hj, hM⟩ := hrel
      by_cases hlt : j < us.length
      · obtain ⟨s, hs'⟩ : ∃ s, us[j]? = some s := ⟨_, List.getElem?_eq_getElem hlt⟩
        obtain ⟨u, hu⟩ : ∃ u, hs[j]? = some u := ⟨_, List.getElem?_eq_getElem (by have := HL.out.1; omega)⟩
        have HST := Lib.hid (marks_step hs')
        have hle := marks_take_le us (j + 1)
        have hle2 := marks_take_le us j
        obtain ⟨xs, hown⟩ := hM.out.todo j s u (Nat.le_refl _) hs' hu
        obtain ⟨oi, ci, rfl⟩ := ownsRow_slice hown
        obtain ⟨u0, hu0⟩ : ∃ u, cells[j * 2]? = some u := ⟨_, List.getElem?_eq_getElem (by have := hM.out.len; omega)⟩
        have c0 := hM.out.row.cell hu0
        have f0 := hM.out.row.frozen (j * 2)
        have c1 := hM.out.row.cell (hM.out.heads j _ hu)
        have HS := Lib.hid (And.intro hs' hu)
        have hil : s.items.length ≤ 1048576 := HL.out.2.2.2 s (List.mem_of_getElem? hs')
        have C := Lib.hid (markItemS_z (.slice oi s.items.length ci) B s.items.length (k + marks (us.take j) + 1) xs (wr.setCell ⟨g, j * 2, none⟩ (.int .i64 ((k : Int) + (marks (us.take j) : Int)))) hil (by omega) (ownsRow_otherN hown hM.out.row (by decide) (j * 2) _))
        clear hs' hu hu0 hown
        go_wp2_with fail
        refine (C.out _ (by omega)).mono ?_
        rintro e w3 ⟨rfl, hm3, hg3⟩
        have HM3 := Lib.hid (hM.out.step HO.out HS.out.1 HS.out.2 HL.out.2.1 HL.out.2.2.1 hg3 hm3)
        have HK : Hid (((k + marks (us.take j) + 1 : Nat) : Int) + 3 * (s.items.length : Int) = (k : Int) + (marks (us.take (j + 1)) : Int)) := Lib.hid (by rw [HST.out]; omega)
        clear hm3 hg3 c0 f0 c1
        go_wp2
        go_roundw
        case rel => exact ⟨j + 1, _, by rw [← HK.out]; congr 1, by go_num, by omega, HM3⟩
        case measure => simp only [intOf]; omega
      · obtain rfl : j = us.length := by omega
        go_wp2
        go_ret
        refine ⟨by rw [List.take_length]; rfl, ⟨_, cap, rfl, .inr ⟨g, cells, hs, rfl, hM.out.row, HL.out.1, fun i s u h1 h2 => ?_⟩⟩, hM.out.below, hM.out.keep⟩
        obtain ⟨a, b⟩ := hM.out.done i s u (List.getElem?_eq_some_iff.1 h1).1 h1 h2
        exact ⟨a, hM.out.heads i u h2, b⟩
set_option maxRecDepth 100000 in
set_option maxHeartbeats 3200000 in
theorem heldScopeS_marked (v : Value) (us : List Sc) (k : Nat) (w : World) (hl : us.length ≤ 1000000) (hil : ∀ s ∈ us, s.items.length ≤ 1048576) (hm : marks us ≤ 1000000000) (h1 : k ≤ 1048576) (h : MarkedGr w v us k) :
    Calls Tryd.prog 80 #[v, .int .i64 (k : Int)] w fun e w' => e = .returned (.int .i64 ((k : Int) + (marks us : Int))) ∧ Below w.heap.size w w' := by
  obtain ⟨oa, cap, rfl, h⟩ := h
  have H := Lib.hid h
  have HIL := Lib.hid hil
  clear h hil
  go_enter Tryd.func80, Tryd.ntmps80
  go_wp2
  go_loopw [1, 5] (fun kv i wr => ∃ j : Nat, kv = .int .i64 ((k : Int) + (marks (us.take j) : Int)) ∧ i = .int .i64 j ∧ j ≤ us.length ∧ Hid (Below w.heap.size w wr)) (fun _ i _ => us.length - (intOf i).toNat)
  case atStart => exact ⟨0, by simp [marks], rfl, Nat.zero_le _, Lib.hid (Below.refl _ _)⟩
  case round =>
    obtain ⟨j, rfl, rfl, hj, hb⟩ := hrel
    by_cases hlt : j < us.length
    · rcases H.out with h | ⟨g, cells, hs, rfl, hR, hhl, hall⟩
      · omega
      · obtain ⟨s, hs'⟩ : ∃ s, us[j]? = some s := ⟨_, List.getElem?_eq_getElem hlt⟩
        obtain ⟨u, hu⟩ : ∃ u, hs[j]? = some u := ⟨_, List.getElem?_eq_getElem (by omega)⟩
        obtain ⟨q0, q1, q2⟩ := hall j s u hs' hu
        have HST := Lib.hid (marks_step hs')
        have hle := marks_take_le us (j + 1)
        have hle2 := marks_take_le us j
        have c0 := (hb.out.cell (p := ⟨g, j * 2, none⟩) hR.lt).trans (hR.cell q0)
        have c1 := (hb.out.cell (p := ⟨g, j * 2 + 1, none⟩) hR.lt).trans (hR.cell q1)
        have hq : (((k : Int) + (marks (us.take j) : Int)) != ((k : Int) + (marks (us.take j) : Int))) = false := by simp
        have C := Lib.hid (heldItemS_z u s.items.length (k + marks (us.take j) + 1) wr (HIL.out s (List.mem_of_getElem? hs')) (by omega) (q2.below hb.out))
        obtain ⟨oi, ci, rfl, -⟩ := q2
        have hneg : decide (((k + marks (us.take j) + 1 : Nat) : Int) + 3 * (s.items.length : Int) < 0) = false := by simp; omega
        clear hall q0 q1 hR hs' hu
        go_wp2_with fail
        refine (C.out _ (by omega)).mono ?_
        rintro e w3 ⟨rfl, hb3⟩
        have HB3 := Lib.hid (hb.out.trans (hb3.mono hb.out.size))
        have HK : Hid (((k + marks (us.take j) + 1 : Nat) : Int) + 3 * (s.items.length : Int) = (k : Int) + (marks (us.take (j + 1)) : Int)) := Lib.hid (by rw [HST.out]; omega)
        clear hb3 c0 c1
        go_wp2
        go_roundw
        case rel => exact ⟨j + 1, by rw [← HK.out]; congr 1, by go_num, by omega, HB3⟩
        case measure => simp only [intOf]; omega
    · obtain rfl : j = us.length := by omega
      go_wp2
      go_ret
      exact ⟨by rw [List.take_length]; rfl, hb.out⟩
set_option maxRecDepth 100000 in
theorem markGraph_own (v : Value) (B : Nat) (us : List Sc) (hs : List Value) (w : World) (hB : B ≤ w.heap.size) (hl : us.length ≤ 1000000) (hil : ∀ s ∈ us, s.items.length ≤ 1048576) (hm : marks us ≤ 1000000000) (hO : OwnGr w B v us hs) :
    Calls Tryd.prog 19 #[.agg #[v], .int .i64 1] w fun e w' => e = .returned (.int .i64 (1 + (marks us : Int))) ∧ MarkedGr w' v us 1 ∧ Below B w w' ∧ (∀ (T : Nat) (t : TypeId) (vs : List Value), Row w T t vs → t ≠ 69 → t ≠ 60 → Row w' T t vs) := by
  obtain ⟨oa, cap, rfl, -⟩ := hO.holds
  have hb0 := (Below.refl w.heap.size w).alloc (Nat.le_refl _) (.cells #[.slice oa us.length cap] 30)
  have C := Lib.hid (markScopeS_own (.slice oa us.length cap) B us hs 1 _ (Nat.le_trans hB hb0.size) hl hil hm (by omega) (hO.below hb0))
  have HB := Lib.hid (hb0.mono hB)
  clear hO hb0
  go_enter Tryd.func19, Tryd.ntmps19
  go_wp2_with fail
  refine C.out.mono ?_
  rintro e w1 ⟨rfl, hm, hb, hk⟩
  have HM := Lib.hid (And.intro hm (And.intro (HB.out.trans hb) (fun (T : Nat) (t : TypeId) (vs : List Value) (h : Row w T t vs) n1 n2 => hk T t vs (h.alloc _) n1 n2)))
  clear hm hb hk
  go_wp2
  go_ret
  exact ⟨rfl, HM.out⟩
set_option maxRecDepth 100000 in
theorem heldGraph_marked (v : Value) (us : List Sc) (w : World) (hl : us.length ≤ 1000000) (hil : ∀ s ∈ us, s.items.length ≤ 1048576) (hm : marks us ≤ 1000000000) (h : MarkedGr w v us 1) :
    Calls Tryd.prog 20 #[.agg #[v], .int .i64 1] w fun e w' => e = .returned (.int .i64 (1 + (marks us : Int))) ∧ Below w.heap.size w w' := by
  obtain ⟨oa, cap, rfl, hh⟩ := id h
  have hb0 := (Below.refl w.heap.size w).alloc (Nat.le_refl _) (.cells #[.slice oa us.length cap] 30)
  have C := Lib.hid (heldScopeS_marked (.slice oa us.length cap) us 1 _ hl hil hm (by omega) (h.below hb0))
  have hneg : decide ((1 : Int) + (marks us : Int) < 0) = false := by simp; omega
  have HB := Lib.hid hb0
  clear h hh hb0
  go_enter Tryd.func20, Tryd.ntmps20
  go_wp2_with fail
  refine C.out.mono ?_
  rintro e w1 ⟨rfl, hb⟩
  have HB2 := Lib.hid (HB.out.trans (hb.mono HB.out.size))
  clear hb
  go_wp2
  go_ret
  exact ⟨rfl, HB2.out⟩
/-- A graph and a truth, as a call hands them back. -/
def GrGot (ok : Prop) (l : List Sc) (w : World) (e : Ending) (w' : World) : Prop :=
  (¬ ok ∧ ∃ v hs, e = .returned (.tuple #[.agg #[v], .bool false]) ∧ OwnGr w' w.heap.size v [] hs ∧ Below w.heap.size w w') ∨
  (ok ∧ ∃ v hs, e = .returned (.tuple #[.agg #[v], .bool true]) ∧ OwnGr w' w.heap.size v l hs ∧ Below w.heap.size w w')
def grVal (ok : Prop) (l : List Sc) (xs : List Sc) (b : Bool) : Prop := (¬ ok ∧ xs = [] ∧ b = false) ∨ (ok ∧ xs = l ∧ b = true)
theorem OwnGr.nil (w : World) (B : Nat) : OwnGr w B (.slice none 0 0) [] [] :=
  ⟨rfl, World.ownsRow_nil _ _ _ _, fun i s u h => by simp at h, fun i j u u' _ h => by simp at h⟩
theorem GrGot.val {ok : Prop} {l : List Sc} {w w' : World} {e : Ending} (h : GrGot ok l w e w') : ∃ oa cap xs hs b, e = .returned (.tuple #[.agg #[.slice oa xs.length cap], .bool b]) ∧ grVal ok l xs b ∧ HoldsScopes w' oa xs ∧ OwnGr w' w.heap.size (.slice oa xs.length cap) xs hs ∧ Below w.heap.size w w' := by
  rcases h with ⟨h1, v, hs, rfl, ho, hb⟩ | ⟨h1, v, hs, rfl, ho, hb⟩
  · obtain ⟨oa, cap, rfl, hh⟩ := ho.holds
    exact ⟨oa, cap, [], hs, false, rfl, .inl ⟨h1, rfl, rfl⟩, hh, ho, hb⟩
  · obtain ⟨oa, cap, rfl, hh⟩ := ho.holds
    exact ⟨oa, cap, l, hs, true, rfl, .inr ⟨h1, rfl, rfl⟩, hh, ho, hb⟩
theorem grVal.same {ok : Prop} {l xs ys : List Sc} {b c : Bool} (h : grVal ok l xs b) (k : grVal ok l ys c) : xs = ys ∧ b = c := by
  rcases h with ⟨h1, h2, h3⟩ | ⟨h1, h2, h3⟩ <;> rcases k with ⟨k1, k2, k3⟩ | ⟨k1, k2, k3⟩
  · exact ⟨by rw [h2, k2], by rw [h3, k3]⟩
  · exact absurd k1 h1
  · exact absurd h1 k1
  · exact ⟨by rw [h2, k2], by rw [h3, k3]⟩
/-- Graphs small enough for the laws' marks. -/
structure SmallGr (us : List Sc) : Prop where
  len : us.length ≤ 1000
  items : ∀ s ∈ us, s.items.length ≤ 1000
theorem grVal.small {ok : Prop} {l xs : List Sc} {b : Bool} (h : grVal ok l xs b) (hl : ok → SmallGr l) : SmallGr xs := by
  rcases h with ⟨_, h2, _⟩ | ⟨h1, h2, _⟩
  · subst h2; exact ⟨by simp, fun s hs => by cases hs⟩
  · subst h2; exact hl h1
theorem marks_bound (n : Nat) : ∀ us : List Sc, (∀ s ∈ us, s.items.length ≤ n) → marks us ≤ us.length * (1 + 3 * n)
  | [], _ => by simp [marks]
  | s :: r, h => by
    have h1 := marks_bound n r (fun t ht => h t (List.mem_cons_of_mem _ ht))
    have h2 := h s List.mem_cons_self
    simp only [marks, List.length_cons, Nat.add_mul, Nat.one_mul]
    omega
theorem SmallGr.marks {us : List Sc} (h : SmallGr us) : marks us ≤ 1000000000 := by
  have h1 := marks_bound 1000 us h.items
  have h2 := Nat.mul_le_mul_right (1 + 3 * 1000) h.len
  omega
theorem OwnGr.mid {b0 b1 B : Nat} {w w' : World} {v : Value} {us : List Sc} {hs : List Value} (h : OwnGr w B v us hs) (hB : b1 ≤ B) (hm : Mid b0 b1 w w') : OwnGr w' B v us hs := by
  have key : ∀ {e : TypeId} {size n : Nat} {u : Value} {xs : List Value}, w.ownsRow B e size u n xs → w'.ownsRow B e size u n xs := fun {e size n u xs} hr => by
    have hlt := hr.lt
    obtain ⟨h1, h2 | ⟨g, cap, cur, hv, hBg, hh, r⟩⟩ := hr
    · exact ⟨h1, .inl h2⟩
    · exact ⟨h1, .inr ⟨g, cap, cur, hv, hBg, (hm.rest g (Array.getElem?_eq_some_iff.1 hh).1 (.inr (Nat.le_trans hB hBg))).trans hh, r⟩⟩
  exact ⟨h.len, key h.row, fun i s u h1 h2 => key (h.items i s u h1 h2), h.apart⟩
end Go.Proofs.YtppgdigcopkeiaaDoor
namespace Go.Proofs.YtppgdigcopkeiaaDoor
open Go Go.RowKit
/-- The graph without the item at a place. -/
def rmvAt (ss : List Sc) (a b : Int) : List Sc := rmvP ss a.toNat b.toNat
theorem rmvAt_nat (ss : List Sc) (i j : Nat) : rmvAt ss (i : Int) (j : Int) = rmvP ss i j := by unfold rmvAt; rw [Int.toNat_natCast, Int.toNat_natCast]
theorem item_where {ss : List Sc} {a b : Int} {x : It} (h : itemAtP ss a b = some x) : ∃ (i j : Nat) (c : Sc), a = (i : Int) ∧ b = (j : Int) ∧ ss[i]? = some c ∧ c.items[j]? = some x := by
  obtain ⟨i, j, rfl, rfl, hq⟩ := item_placed h
  obtain ⟨s, h1, h2⟩ := placed_at hq
  exact ⟨i, j, s, rfl, rfl, h1, h2⟩
set_option maxRecDepth 100000 in
set_option maxHeartbeats 4000000 in
theorem implRemoveItem_any (ss : List Sc) (hF : Fair ss) (oa : Option Addr) (cap : Nat) (a b : Int) (ha : (Lit.int .i64 a).wf = true) (hb' : (Lit.int .i64 b).wf = true) (w : World) (hc : HoldsScopes w oa ss) (hE : TreeErrs w) :
    Calls Tryd.prog 17 #[.agg #[.slice oa ss.length cap], .agg #[.int .i64 a, .int .i64 b]] w (GrGot (itemHas ss a b) (rmvAt ss a b) w) := by
  have hb0 : Below w.heap.size w (((w.alloc (.cells #[.slice oa ss.length cap] 30)).alloc (.cells #[.int .i64 a, .int .i64 b] 34)).alloc (.cells #[.slice none 0 0] 30)) := (((Below.refl _ _).alloc (Nat.le_refl _) _).alloc (by simp) _).alloc (by simp; omega) _
  have R1 := ((Row.new w [.slice oa ss.length cap] 30).alloc (.cells #[.int .i64 a, .int .i64 b] 34)).alloc (.cells #[.slice none 0 0] 30)
  have R2 := (Row.new (w.alloc (.cells #[.slice oa ss.length cap] 30)) [.int .i64 a, .int .i64 b] 34).alloc (.cells #[.slice none 0 0] 30)
  have R3 := Row.new ((w.alloc (.cells #[.slice oa ss.length cap] 30)).alloc (.cells #[.int .i64 a, .int .i64 b] 34)) [.slice none 0 0] 30
  rw [World.size_alloc] at R2
  rw [World.size_alloc, World.size_alloc] at R3
  have C := Lib.hid (implItemAt_any ss hF oa cap a b ha hb' _ (hc.below hb0 (Nat.le_refl _)) (hE.below hb0 hE.size))
  have HB := Lib.hid hb0
  have HR1 := Lib.hid R1
  have HR2 := Lib.hid R2
  have HR3 := Lib.hid R3
  have HF := Lib.hid hF
  have HC := Lib.hid hc
  have g1 := R1.cell (i := 0) (by rfl)
  have p0 := R2.cell (i := 0) (by rfl)
  have p1 := R2.cell (i := 1) (by rfl)
  clear hF hc hE hb0 R1 R2 R3
  go_enter Tryd.func17, Tryd.ntmps17
  go_wp2_with fail
  refine C.out.mono ?_
  rintro e w1 ⟨x, ok, rfl, hcase, hb1⟩
  have hbx := hb1.trans ((Below.refl w1.heap.size w1).alloc (Nat.le_refl _) (.cells #[.int .i64 x.kind, .string x.name, .int .i64 x.scope] 60) |>.mono hb1.size)
  have HB1 := Lib.hid (HB.out.trans (hbx.mono HB.out.size))
  have HR3a := Lib.hid (HR3.out.below hbx HR3.out.lt)
  have g2 := (HR1.out.below hbx HR1.out.lt).cell (i := 0) (v := .slice oa ss.length cap) (by rfl)
  have q0 := (HR2.out.below hbx HR2.out.lt).cell (i := 0) (v := .int .i64 a) (by rfl)
  have q1 := (HR2.out.below hbx HR2.out.lt).cell (i := 1) (v := .int .i64 b) (by rfl)
  have n0 := HR3a.out.cell (i := 0) (v := .slice none 0 0) (by rfl)
  have f0 := HR3a.out.frozen 0
  have HCS := Lib.hid hcase
  clear hb1 hbx hcase g1 p0 p1
  unfold itV
  cases ok
  · have HN : Hid (¬ itemHas ss a b) := Lib.hid (by
      rcases HCS.out with ⟨_, _, h⟩ | ⟨h, _⟩
      · cases h
      · exact h)
    go_wp2
    have RT := HR3a.out.set 0 (.slice none 0 0)
    have d0 := RT.cell (i := 0) (v := .slice none 0 0) (by rfl)
    refine bodyPost_ret (v := .tuple #[.agg #[.slice none 0 0], .bool false]) (by simp [results, Tryd.results17, go_sem, d0]) rfl (.inl ⟨HN.out, _, [], rfl, OwnGr.nil _ _, HB1.out.setCell (by simp; omega) _⟩)
  · obtain ⟨hv, hx⟩ : Valid ss ∧ itemAtP ss a b = some x := by
      rcases HCS.out with ⟨h1, h2, _⟩ | ⟨_, _, h⟩
      · exact ⟨h1, h2⟩
      · cases h
    have HH : Hid (itemHas ss a b) := Lib.hid ⟨hv, by rw [hx]; rfl⟩
    obtain ⟨i, j, c, rfl, rfl, hci, hxj⟩ := item_where hx
    have C2 := Lib.hid (without_any ss HF.out oa cap i j c x hci hxj _ (HC.out.below HB1.out (Nat.le_refl _)))
    clear hv hx hci hxj
    go_wp2_with fail
    refine C2.out.mono ?_
    rintro e w2 ⟨v, hs, rfl, hO, hb2⟩
    obtain ⟨ov, cv, rfl, -⟩ := hO.holds
    have HB2 := Lib.hid (HB1.out.trans (hb2.mono HB1.out.size))
    have HR3b := Lib.hid (HR3a.out.below hb2 HR3a.out.lt)
    have HO := Lib.hid (hO.lower HB1.out.size)
    have m0 := HR3b.out.cell (i := 0) (v := .slice none 0 0) (by rfl)
    have l0 := HR3b.out.frozen 0
    clear hO hb2 n0 f0 g2 q0 q1
    go_wp2
    have RT := HR3b.out.set 0 (.slice ov (rmvP ss i j).length cv)
    have d0 := RT.cell (i := 0) (v := .slice ov (rmvP ss i j).length cv) (by rfl)
    refine bodyPost_ret (v := .tuple #[.agg #[.slice ov (rmvP ss i j).length cv], .bool true]) (by simp [results, Tryd.results17, go_sem, d0]) rfl (.inr ⟨HH.out, _, hs, rfl, ?_, HB2.out.setCell (by simp; omega) _⟩)
    rw [rmvAt_nat]
    exact ⟨HO.out.len, ownsRow_otherN HO.out.row HR3b.out (by decide) 0 _, fun k t z h1 h2 => ownsRow_otherN (HO.out.items k t z h1 h2) HR3b.out (by decide) 0 _, HO.out.apart⟩
/-- What the given l6RawRemoveItem answers. -/
def RawRem (ss : List Sc) (a b : Int) (w : World) (e : Ending) (w' : World) : Prop :=
  (¬ itemHas ss a b ∧ e = .returned (.tuple #[.agg #[.slice none 0 0], .bool false]) ∧ Below w.heap.size w w') ∨
  (itemHas ss a b ∧ ∃ ov cv, e = .returned (.tuple #[.agg #[.slice ov ss.length cv], .bool true]) ∧ HoldsScopes w' ov (rmvAt ss a b) ∧ Below w.heap.size w w')
set_option maxRecDepth 100000 in
set_option maxHeartbeats 4000000 in
theorem rawRemove_any (ss : List Sc) (hF : Fair ss) (oa : Option Addr) (cap : Nat) (a b : Int) (w : World) (hc : HoldsScopes w oa ss) :
    Calls Tryd.prog 74 #[.agg #[.slice oa ss.length cap], .agg #[.int .i64 a, .int .i64 b]] w (RawRem ss a b w) := by
  have hb0 : Below w.heap.size w (((w.alloc (.cells #[.slice oa ss.length cap] 30)).alloc (.cells #[.int .i64 a, .int .i64 b] 34)).alloc (.cells #[.slice none 0 0] 30)) := (((Below.refl _ _).alloc (Nat.le_refl _) _).alloc (by simp) _).alloc (by simp; omega) _
  have R1 := ((Row.new w [.slice oa ss.length cap] 30).alloc (.cells #[.int .i64 a, .int .i64 b] 34)).alloc (.cells #[.slice none 0 0] 30)
  have R2 := (Row.new (w.alloc (.cells #[.slice oa ss.length cap] 30)) [.int .i64 a, .int .i64 b] 34).alloc (.cells #[.slice none 0 0] 30)
  have R3 := Row.new ((w.alloc (.cells #[.slice oa ss.length cap] 30)).alloc (.cells #[.int .i64 a, .int .i64 b] 34)) [.slice none 0 0] 30
  rw [World.size_alloc] at R2
  rw [World.size_alloc, World.size_alloc] at R3
  have C := Lib.hid (specValid_any ss oa cap _ hF.fits (hc.below hb0 (Nat.le_refl _)))
  have HB := Lib.hid hb0
  have HR1 := Lib.hid R1
  have HR2 := Lib.hid R2
  have HR3 := Lib.hid R3
  have HF := Lib.hid hF
  have HC := Lib.hid hc
  have g1 := R1.cell (i := 0) (by rfl)
  clear hF hc hb0 R1 R2 R3
  go_enter Tryd.func74, Tryd.ntmps74
  go_wp2_with fail
  refine C.out.mono ?_
  rintro e w1 ⟨q, rfl, hv, hb1⟩
  have HB1 := Lib.hid (HB.out.trans (hb1.mono HB.out.size))
  have HR1a := Lib.hid (HR1.out.below hb1 HR1.out.lt)
  have HR2a := Lib.hid (HR2.out.below hb1 HR2.out.lt)
  have HR3a := Lib.hid (HR3.out.below hb1 HR3.out.lt)
  have HV := Lib.hid hv
  have g2 := HR1a.out.cell (i := 0) (v := .slice oa ss.length cap) (by rfl)
  have q0 := HR2a.out.cell (i := 0) (v := .int .i64 a) (by rfl)
  have q1 := HR2a.out.cell (i := 1) (v := .int .i64 b) (by rfl)
  clear hb1 hv g1
  cases q
  · have HN : Hid (¬ itemHas ss a b) := Lib.hid (fun h => by have := HV.out.2 h.1; cases this)
    have n0 := HR3a.out.cell (i := 0) (v := .slice none 0 0) (by rfl)
    have f0 := HR3a.out.frozen 0
    go_wp2
    have RT := HR3a.out.set 0 (.slice none 0 0)
    have d0 := RT.cell (i := 0) (v := .slice none 0 0) (by rfl)
    refine bodyPost_ret (v := .tuple #[.agg #[.slice none 0 0], .bool false]) (by simp [results, Tryd.results74, go_sem, d0]) rfl (.inl ⟨HN.out, rfl, HB1.out.setCell (by simp; omega) _⟩)
  · have HVV := Lib.hid (HV.out.1 rfl)
    have C2 := Lib.hid (specHas_any ss HF.out.fits oa cap a b _ (HC.out.below HB1.out (Nat.le_refl _)))
    go_wp2_with fail
    refine C2.out.mono ?_
    rintro e w2 ⟨rfl, hb2⟩
    have HB2 := Lib.hid (HB1.out.trans (hb2.mono HB1.out.size))
    have HR3b := Lib.hid (HR3a.out.below hb2 HR3a.out.lt)
    have g3 := (HR1a.out.below hb2 HR1a.out.lt).cell (i := 0) (v := .slice oa ss.length cap) (by rfl)
    have t0 := (HR2a.out.below hb2 HR2a.out.lt).cell (i := 0) (v := .int .i64 a) (by rfl)
    have t1 := (HR2a.out.below hb2 HR2a.out.lt).cell (i := 1) (v := .int .i64 b) (by rfl)
    have n0 := HR3b.out.cell (i := 0) (v := .slice none 0 0) (by rfl)
    have f0 := HR3b.out.frozen 0
    clear hb2 g2 q0 q1
    have hcase : itemAtP ss a b = none ∨ ∃ x, itemAtP ss a b = some x := by cases itemAtP ss a b <;> simp
    rcases hcase with hx | ⟨x, hx⟩
    · have HN : Hid (¬ itemHas ss a b) := Lib.hid (fun h => by have := h.2; rw [hx] at this; cases this)
      rw [hx]
      clear hx
      simp only [Option.isSome_none]
      go_wp2
      have RT := HR3b.out.set 0 (.slice none 0 0)
      have d0 := RT.cell (i := 0) (v := .slice none 0 0) (by rfl)
      refine bodyPost_ret (v := .tuple #[.agg #[.slice none 0 0], .bool false]) (by simp [results, Tryd.results74, go_sem, d0]) rfl (.inl ⟨HN.out, rfl, HB2.out.setCell (by simp; omega) _⟩)
    · have HH : Hid (itemHas ss a b) := Lib.hid ⟨HVV.out, by rw [hx]; rfl⟩
      rw [hx]
      obtain ⟨i, j, c, rfl, rfl, hci, hxj⟩ := item_where hx
      have C3 := Lib.hid (specRemove_any ss HF.out.count (fun s hs => by have := HF.out.items s hs; omega) oa cap i j c x hci hxj _ (HC.out.below HB2.out (Nat.le_refl _)))
      clear hx hci hxj
      simp only [Option.isSome_some]
      go_wp2_with fail
      refine C3.out.mono ?_
      rintro e w3 ⟨v, hs, rfl, hO, hb3⟩
      obtain ⟨ov, cv, rfl, hh⟩ := hO.holds
      have HB3 := Lib.hid (HB2.out.trans (hb3.mono HB2.out.size))
      have HR3c := Lib.hid (HR3b.out.below hb3 HR3b.out.lt)
      have m0 := HR3c.out.cell (i := 0) (v := .slice none 0 0) (by rfl)
      have l0 := HR3c.out.frozen 0
      have HO := Lib.hid hO
      clear hO hb3 n0 f0 g3 t0 t1 hh
      go_wp2
      have RT := HR3c.out.set 0 (.slice ov (rmvP ss i j).length cv)
      have d0 := RT.cell (i := 0) (v := .slice ov (rmvP ss i j).length cv) (by rfl)
      refine bodyPost_ret (v := .tuple #[.agg #[.slice ov (rmvP ss i j).length cv], .bool true]) (by simp [results, Tryd.results74, go_sem, d0]) rfl (.inr ⟨HH.out, ov, cv, by rw [rmvP_length], ?_, HB3.out.setCell (by simp; omega) _⟩)
      rw [rmvAt_nat]
      obtain ⟨ov', cv', he, hh⟩ := OwnGr.holds (⟨HO.out.len, ownsRow_otherN HO.out.row HR3c.out (by decide) 0 _, fun k t z h1 h2 => ownsRow_otherN (HO.out.items k t z h1 h2) HR3c.out (by decide) 0 _, HO.out.apart⟩ : OwnGr (w3.setCell ⟨w.heap.size + 1 + 1, 0, none⟩ (.slice ov (rmvP ss i j).length cv)) w2.heap.size (.slice ov (rmvP ss i j).length cv) (rmvP ss i j) hs)
      simp only [Value.slice.injEq] at he
      obtain ⟨rfl, -, -⟩ := he
      exact hh
set_option maxRecDepth 100000 in
set_option maxHeartbeats 4000000 in
theorem specRemoveItem_any (ss : List Sc) (hF : Fair ss) (oa : Option Addr) (cap : Nat) (a b : Int) (w : World) (hc : HoldsScopes w oa ss) :
    Calls Tryd.prog 14 #[.agg #[.slice oa ss.length cap], .agg #[.int .i64 a, .int .i64 b]] w (GrGot (itemHas ss a b) (rmvAt ss a b) w) := by
  have hb0 : Below w.heap.size w (((w.alloc (.cells #[.slice oa ss.length cap] 30)).alloc (.cells #[.int .i64 a, .int .i64 b] 34)).alloc (.cells #[.slice none 0 0] 30)) := (((Below.refl _ _).alloc (Nat.le_refl _) _).alloc (by simp) _).alloc (by simp; omega) _
  have R1 := ((Row.new w [.slice oa ss.length cap] 30).alloc (.cells #[.int .i64 a, .int .i64 b] 34)).alloc (.cells #[.slice none 0 0] 30)
  have R2 := (Row.new (w.alloc (.cells #[.slice oa ss.length cap] 30)) [.int .i64 a, .int .i64 b] 34).alloc (.cells #[.slice none 0 0] 30)
  have R3 := Row.new ((w.alloc (.cells #[.slice oa ss.length cap] 30)).alloc (.cells #[.int .i64 a, .int .i64 b] 34)) [.slice none 0 0] 30
  rw [World.size_alloc] at R2
  rw [World.size_alloc, World.size_alloc] at R3
  have C := Lib.hid (rawRemove_any ss hF oa cap a b _ (hc.below hb0 (Nat.le_refl _)))
  have HB := Lib.hid hb0
  have HR3 := Lib.hid R3
  have HF := Lib.hid hF
  have g1 := R1.cell (i := 0) (by rfl)
  have p0 := R2.cell (i := 0) (by rfl)
  have p1 := R2.cell (i := 1) (by rfl)
  clear hF hc hb0 R1 R2 R3
  go_enter Tryd.func14, Tryd.ntmps14
  go_wp2_with fail
  refine C.out.mono ?_
  rintro e w1 (⟨hn, rfl, hb1⟩ | ⟨hh, ov, cv, rfl, hho, hb1⟩)
  · have hbx := hb1.trans ((Below.refl w1.heap.size w1).alloc (Nat.le_refl _) (.cells #[.slice none 0 0] 30) |>.mono hb1.size)
    have HB1 := Lib.hid (HB.out.trans (hbx.mono HB.out.size))
    have HR3a := Lib.hid (HR3.out.below hbx HR3.out.lt)
    have RX := (Row.new w1 [.slice none 0 0] 30).cell (i := 0) (by rfl)
    have HN := Lib.hid hn
    have C2 := Lib.hid (ownGraph_any [] none 0 (by simp) (fun s hs => by cases hs) (w1.alloc (.cells #[.slice none 0 0] 30)) (.inl rfl))
    clear hb1 hbx hn g1 p0 p1
    go_wp2_with fail
    refine C2.out.mono ?_
    rintro e w2 ⟨v, hs, rfl, hO, hb2⟩
    obtain ⟨ov2, cv2, rfl, -⟩ := hO.holds
    have HO := Lib.hid (hO.lower HB1.out.size)
    have HB2 := Lib.hid (HB1.out.trans (hb2.mono HB1.out.size))
    have HR3b := Lib.hid (HR3a.out.below hb2 HR3a.out.lt)
    have m0 := HR3b.out.cell (i := 0) (v := .slice none 0 0) (by rfl)
    have l0 := HR3b.out.frozen 0
    clear hO hb2 RX
    go_wp2
    have RT := HR3b.out.set 0 (.slice ov2 ([] : List Sc).length cv2)
    have d0 := RT.cell (i := 0) (v := .slice ov2 ([] : List Sc).length cv2) (by rfl)
    refine bodyPost_ret (v := .tuple #[.agg #[.slice ov2 ([] : List Sc).length cv2], .bool false]) (by simp [results, Tryd.results14, go_sem] at d0 ⊢; simp [d0]) rfl (.inl ⟨HN.out, _, hs, rfl, ?_, HB2.out.setCell (by simp; omega) _⟩)
    exact ⟨HO.out.len, ownsRow_otherN HO.out.row HR3b.out (by decide) 0 _, fun k t z h1 h2 => ownsRow_otherN (HO.out.items k t z h1 h2) HR3b.out (by decide) 0 _, HO.out.apart⟩
  · have hbx := hb1.trans ((Below.refl w1.heap.size w1).alloc (Nat.le_refl _) (.cells #[.slice ov ss.length cv] 30) |>.mono hb1.size)
    have HB1 := Lib.hid (HB.out.trans (hbx.mono HB.out.size))
    have HR3a := Lib.hid (HR3.out.below hbx HR3.out.lt)
    have RX := (Row.new w1 [.slice ov ss.length cv] 30).cell (i := 0) (by rfl)
    have HH := Lib.hid hh
    have hF2 := HF.out.rmv a.toNat b.toNat
    have hle : ∀ s ∈ rmvAt ss a b, s.items.length < 1048576 := fun s hs => by
      have hv := (Valid.rmv hh.1 a.toNat b.toNat).five s hs
      omega
    have C2 : Hid (Calls Tryd.prog 75 #[.agg #[.slice ov ss.length cv]] (w1.alloc (.cells #[.slice ov ss.length cv] 30)) fun e w' => ∃ v hs, e = .returned (.agg #[v]) ∧ OwnGr w' (w1.alloc (.cells #[.slice ov ss.length cv] 30)).heap.size v (rmvAt ss a b) hs ∧ Below (w1.alloc (.cells #[.slice ov ss.length cv] 30)).heap.size (w1.alloc (.cells #[.slice ov ss.length cv] 30)) w') := Lib.hid (by
      have h := ownGraph_any (rmvAt ss a b) ov cv (by unfold rmvAt; rw [rmvP_length]; exact HF.out.count) hle (w1.alloc (.cells #[.slice ov ss.length cv] 30)) (hho.below ((Below.refl _ _).alloc (Nat.le_refl _) _) (Nat.le_refl _))
      have e : (rmvAt ss a b).length = ss.length := by unfold rmvAt; rw [rmvP_length]
      rw [e] at h
      exact h)
    clear hb1 hbx hh hho hF2 hle g1 p0 p1
    go_wp2_with fail
    refine C2.out.mono ?_
    rintro e w2 ⟨v, hs, rfl, hO, hb2⟩
    obtain ⟨ov2, cv2, rfl, -⟩ := hO.holds
    have HO := Lib.hid (hO.lower HB1.out.size)
    have HB2 := Lib.hid (HB1.out.trans (hb2.mono HB1.out.size))
    have HR3b := Lib.hid (HR3a.out.below hb2 HR3a.out.lt)
    have m0 := HR3b.out.cell (i := 0) (v := .slice none 0 0) (by rfl)
    have l0 := HR3b.out.frozen 0
    clear hO hb2 RX
    go_wp2
    have RT := HR3b.out.set 0 (.slice ov2 (rmvAt ss a b).length cv2)
    have d0 := RT.cell (i := 0) (v := .slice ov2 (rmvAt ss a b).length cv2) (by rfl)
    refine bodyPost_ret (v := .tuple #[.agg #[.slice ov2 (rmvAt ss a b).length cv2], .bool true]) (by simp [results, Tryd.results14, go_sem, d0]) rfl (.inr ⟨HH.out, _, hs, rfl, ?_, HB2.out.setCell (by simp; omega) _⟩)
    exact ⟨HO.out.len, ownsRow_otherN HO.out.row HR3b.out (by decide) 0 _, fun k t z h1 h2 => ownsRow_otherN (HO.out.items k t z h1 h2) HR3b.out (by decide) 0 _, HO.out.apart⟩
end Go.Proofs.YtppgdigcopkeiaaDoor
namespace Go.Proofs.YtppgdigcopkeiaaDoor
open Go Go.RowKit
theorem grow_cell {W W' : World} {p : Addr} {v : Value} (hb : Below W.heap.size W W') (h : W.cell? p = some v) : W'.cell? p = some v := (hb.cell (World.block_lt_of_cell? _ _ h)).trans h
theorem below_al (W : World) (o : Obj) : Below W.heap.size W (W.alloc o) := (Below.refl _ _).alloc (Nat.le_refl _) o
theorem drew_size (W : World) : W.drew.heap.size = W.heap.size := rfl
theorem held_of {w w1 W : World} {p0 p1 p2 : Addr} {v0 v1 v2 : Value} (c0 : w1.cell? p0 = some v0) (c1 : w1.cell? p1 = some v1) (c2 : w1.cell? p2 = some v2) (B1 : Below w.heap.size w w1) (hb : Below w1.heap.size w1 W) :
    W.cell? p0 = some v0 ∧ W.cell? p1 = some v1 ∧ W.cell? p2 = some v2 ∧ Below w.heap.size w W ∧ Below w1.heap.size w1 W :=
  ⟨grow_cell hb c0, grow_cell hb c1, grow_cell hb c2, B1.trans (hb.mono B1.size), hb⟩
/-- A graph and a truth that a call handed back, the graph's header in a box. -/
def GrBox (ss : List Sc) (a b : Int) (B : Nat) (w : World) (g : Nat) (ok : Bool) : Prop := ∃ o c xs hs, grVal (itemHas ss a b) (rmvAt ss a b) xs ok ∧ B ≤ g ∧ Row w g 30 [.slice o xs.length c] ∧ HoldsScopes w o xs ∧ OwnGr w B (.slice o xs.length c) xs hs
theorem OwnGr.holds_at {w : World} {B : Nat} {o : Option Addr} {n c : Nat} {xs : List Sc} {hs : List Value} (h : OwnGr w B (.slice o n c) xs hs) : HoldsScopes w o xs := by
  obtain ⟨_, _, he, hh⟩ := h.holds
  cases he
  exact hh
theorem OwnGr.otherN {w : World} {B T : Nat} {v : Value} {us : List Sc} {hs vs : List Value} (h : OwnGr w B v us hs) (hT : Row w T 30 vs) (i : Nat) (u : Value) : OwnGr (w.setCell ⟨T, i, none⟩ u) B v us hs :=
  ⟨h.len, ownsRow_otherN h.row hT (by decide) i u, fun k t z h1 h2 => ownsRow_otherN (h.items k t z h1 h2) hT (by decide) i u, h.apart⟩
theorem GrBox.new {ss xs : List Sc} {a b : Int} {B c : Nat} {w : World} {ok : Bool} {o : Option Addr} {hs : List Value} (hv : grVal (itemHas ss a b) (rmvAt ss a b) xs ok) (hO : OwnGr w B (.slice o xs.length c) xs hs) (hB : B ≤ w.heap.size) :
    GrBox ss a b B (w.alloc (.cells #[.slice o xs.length c] 30)) w.heap.size ok :=
  have h := hO.below (below_al w (.cells #[.slice o xs.length c] 30))
  ⟨o, c, xs, hs, hv, hB, Row.new w [.slice o xs.length c] 30, h.holds_at, h⟩
theorem GrBox.set {ss xs : List Sc} {a b : Int} {B c g : Nat} {w : World} {ok : Bool} {o : Option Addr} {hs : List Value} {x : Value} (hv : grVal (itemHas ss a b) (rmvAt ss a b) xs ok) (hO : OwnGr w B (.slice o xs.length c) xs hs) (hz : Row w g 30 [x]) (hB : B ≤ g) :
    GrBox ss a b B (w.setCell ⟨g, 0, none⟩ (.slice o xs.length c)) g ok :=
  have h := hO.otherN hz 0 (.slice o xs.length c)
  ⟨o, c, xs, hs, hv, hB, hz.set 0 _, h.holds_at, h⟩
theorem rmv_small {ss xs : List Sc} {a b : Int} {ok : Bool} (h : grVal (itemHas ss a b) (rmvAt ss a b) xs ok) : SmallGr xs :=
  h.small (fun hh => ⟨by have h1 := (Valid.rmv hh.1 a.toNat b.toNat).count.2; unfold rmvAt; omega, fun s hs => by have h1 := (Valid.rmv hh.1 a.toNat b.toNat).five s hs; omega⟩)
set_option maxRecDepth 100000 in
set_option maxHeartbeats 16000000 in
theorem lawExactRemoveItem (ss : List Sc) (oa : Option Addr) (cap : Nat) (a b : Int) (w : World) (hf : FitsScopes ss) (hI : I64Scopes ss) (hc : HoldsScopes w oa ss) (hE : TreeErrs w) (ha : (Lit.int .i64 a).wf = true) (hb' : (Lit.int .i64 b).wf = true) :
    Calls Tryd.prog 3 #[.agg #[.slice oa ss.length cap], .agg #[.int .i64 a, .int .i64 b]] w fun e w' => e = .returned (.bool true) ∧ Below w.heap.size w w' := by
  have hb0 := ((Below.refl w.heap.size w).alloc (Nat.le_refl _) (.cells #[.slice oa ss.length cap] 24)).alloc (by simp) (.cells #[.int .i64 a, .int .i64 b] 26)
  have C0 := Lib.hid (szGraph_any ss oa cap 1048576 _ hf (hc.below hb0 (Nat.le_refl _)) (by omega) (by omega))
  have HB0 := Lib.hid hb0
  have R0 := Lib.hid ((Row.new w [.slice oa ss.length cap] 24).alloc (.cells #[.int .i64 a, .int .i64 b] 26))
  have hP0 := Row.new (w.alloc (.cells #[.slice oa ss.length cap] 24)) [.int .i64 a, .int .i64 b] 26
  rw [World.size_alloc] at hP0
  have P0 := Lib.hid hP0
  clear hP0
  by_cases hn : wScopes ss ≤ 1048576
  · have HF := Lib.hid (Fair.of_weight hf hI hn)
    rw [rest_pos (by omega)] at C0
    have h0 : (0 : Int) ≤ 1048576 - (wScopes ss : Int) := by omega
    have HC := Lib.hid hc
    have HE := Lib.hid hE
    have HW := Lib.hid hn
    have HWF := Lib.hid (And.intro ha hb')
    clear hn hc hE hb0 hf hI ha hb'
    go_enter Tryd.func3, Tryd.ntmps3
    go_wp2_with fail
    refine C0.out.mono ?_
    rintro e w1 ⟨rfl, hb1⟩
    have hB := belowS HB0.out hb1
    have R1 := Lib.hid (R0.out.below hb1 R0.out.lt)
    have P1 := Lib.hid (P0.out.below hb1 P0.out.lt)
    have c0 := R1.out.cell (i := 0) (by rfl)
    have p0 := P1.out.cell (i := 0) (by rfl)
    have p1 := P1.out.cell (i := 1) (by rfl)
    have B1 := Lib.hid hB
    clear hb1 hB
    go_wp2
    go_cut [6, 7] (fun s6 s7 wx => ∃ (ok : Bool) (g : Nat), s6 = .pointer (some ⟨g, 0, none⟩) ∧ s7 = .bool ok ∧ GrBox ss a b w1.heap.size wx g ok ∧ Below w1.heap.size w1 wx)
    case first =>
      go_region_held3 (fun w' => w'.cell? ⟨w.heap.size, 0, none⟩ = some (.slice oa ss.length cap) ∧ w'.cell? ⟨w.heap.size + 1, 0, none⟩ = some (.int .i64 a) ∧ w'.cell? ⟨w.heap.size + 1, 1, none⟩ = some (.int .i64 b) ∧ Below w.heap.size w w' ∧ Below w1.heap.size w1 w')
        (first
          | exact held_of c0 p0 p1 B1.out (Below.refl _ _)
          | exact held_of c0 p0 p1 B1.out (Below.refl _ _).drew
          | exact held_of c0 p0 p1 B1.out ((Below.refl _ _).alloc (Nat.le_refl _) _).drew
          | exact held_of c0 p0 p1 B1.out hBs
          | exact held_of c0 p0 p1 B1.out hBp
          | exact held_of c0 p0 p1 B1.out hBg
          | exact held_of c0 p0 p1 B1.out (hBs.alloc hBs.size _)
          | exact held_of c0 p0 p1 B1.out (hBp.alloc hBp.size _)
          | exact held_of c0 p0 p1 B1.out (hBg.alloc hBg.size _)
          | exact held_of c0 p0 p1 B1.out (hBs.setCell (Nat.le_refl _) _)
          | exact held_of c0 p0 p1 B1.out (hBs.setCell hBg.size _)
          | exact held_of c0 p0 p1 B1.out (hBs.setCell hBp.size _))
        (first
          | (go_at_call 15; refine (toGraph_holds HF.out oa cap HC.out (And.left (And.right (And.right (And.right (by assumption)))))).mono ?_; rintro e wg ⟨gg, rfl, hhg, hbg⟩; have hBg := Below.trans (show Below w1.heap.size w1 _ from (And.right (And.right (And.right (And.right (by assumption)))))) (hbg.mono (Below.size (And.right (And.right (And.right (And.right (by assumption))))))); (first | (have hz := Row.below hz hbg hz.lt; have z0 := hz.cell (i := 0) (by rfl); have zf0 := hz.frozen 0) | (have hz := Row.below (Row.new _ [.slice none 0 0] 30) hbg (by simp); (try simp only [drew_size] at hz); have z0 := hz.cell (i := 0) (by rfl); have zf0 := hz.frozen 0) | (have hz := Row.below (Row.drew (Row.new _ [.slice none 0 0] 30)) hbg (by simp); (try simp only [drew_size] at hz); have z0 := hz.cell (i := 0) (by rfl); have zf0 := hz.frozen 0) | skip))
          | (go_at_call 16; refine (toPlace_any a b _).mono ?_; rintro e wp ⟨rfl, hbp⟩; have hBp := Below.trans (show Below w1.heap.size w1 _ from (And.right (And.right (And.right (And.right (by assumption)))))) (hbp.mono (Below.size (And.right (And.right (And.right (And.right (by assumption))))))); try (have hhg := HoldsScopes.below hhg (show Below _ _ _ from by first | exact hbp | exact (below_al _ _).trans (hbp.mono (by simp))) (Nat.le_refl _)); (first | (have hz := Row.below hz hbp hz.lt; have z0 := hz.cell (i := 0) (by rfl); have zf0 := hz.frozen 0) | (have hz := Row.below (Row.new _ [.slice none 0 0] 30) hbp (by simp); (try simp only [drew_size] at hz); have z0 := hz.cell (i := 0) (by rfl); have zf0 := hz.frozen 0) | (have hz := Row.below (Row.drew (Row.new _ [.slice none 0 0] 30)) hbp (by simp); (try simp only [drew_size] at hz); have z0 := hz.cell (i := 0) (by rfl); have zf0 := hz.frozen 0) | skip))
          | (go_at_call 14; refine (specRemoveItem_any ss HF.out _ _ a b _ (by first | exact hhg | exact hhg.below (below_al _ _) (Nat.le_refl _))).mono ?_; intro e ws hgot; obtain ⟨oX, cX, zs, hsX, ok, rfl, hv, -, hO, hbs⟩ := hgot.val; have hO := hO.lower (Below.size (show Below w1.heap.size w1 _ from (And.right (And.right (And.right (And.right (by assumption))))))); have hBs := Below.trans (show Below w1.heap.size w1 _ from (And.right (And.right (And.right (And.right (by assumption)))))) (hbs.mono (Below.size (And.right (And.right (And.right (And.right (by assumption))))))); (first | (have hz := Row.below hz hbs hz.lt; have z0 := hz.cell (i := 0) (by rfl); have zf0 := hz.frozen 0) | (have hz := Row.below (Row.new _ [.slice none 0 0] 30) hbs (by simp); (try simp only [drew_size] at hz); have z0 := hz.cell (i := 0) (by rfl); have zf0 := hz.frozen 0) | (have hz := Row.below (Row.drew (Row.new _ [.slice none 0 0] 30)) hbs (by simp); (try simp only [drew_size] at hz); have z0 := hz.cell (i := 0) (by rfl); have zf0 := hz.frozen 0) | skip)))
      all_goals go_wp2
      all_goals go_meet
      all_goals first
        | exact ⟨ok, _, rfl, rfl, GrBox.new hv hO hBs.size, hBs.alloc hBs.size _⟩
        | exact ⟨ok, _, rfl, rfl, GrBox.set hv hO hz hBp.size, hBs.setCell hBp.size _⟩
        | exact ⟨ok, _, rfl, rfl, GrBox.set hv hO hz hBg.size, hBs.setCell hBg.size _⟩
        | exact ⟨ok, _, rfl, rfl, GrBox.set hv hO hz (Nat.le_refl _), hBs.setCell (Nat.le_refl _) _⟩
    case rest =>
      obtain ⟨ok, g6, rfl, rfl, ⟨oW, cW, xs, hsW, hv, hg6, hr6, hh6, -⟩, hbc⟩ := hcut
      have V2 := Lib.hid hv
      have SM := Lib.hid (rmv_small hv)
      have B2 := Lib.hid (belowS B1.out hbc)
      have R2 := Lib.hid (R1.out.below hbc R1.out.lt)
      have P2 := Lib.hid (P1.out.below hbc P1.out.lt)
      have I2 := Lib.hid hr6
      have W2 := Lib.hid hh6
      have c2 := R2.out.cell (i := 0) (by rfl)
      clear hbc hr6 hv hg6 hh6 c0 p0 p1
      go_wp2_with fail
      refine (toGraph_own HF.out.count HF.out.items oa cap HC.out B2.out).mono ?_
      rintro e w4 ⟨g4, vs4, rfl, hh4, ho4, hb4⟩
      have hbA := hb4.trans ((below_al w4 (.cells #[.slice (some ⟨g4, 0, none⟩) ss.length ss.length] 30)).mono hb4.size)
      have RA := Lib.hid (Row.new w4 [.slice (some ⟨g4, 0, none⟩) ss.length ss.length] 30)
      have NA := Lib.hid hbA
      have OA := Lib.hid (ho4.below (below_al w4 (.cells #[.slice (some ⟨g4, 0, none⟩) ss.length ss.length] 30)))
      have HA := Lib.hid (hh4.below (below_al w4 (.cells #[.slice (some ⟨g4, 0, none⟩) ss.length ss.length] 30)) (Nat.le_refl _))
      have BA := Lib.hid (belowS B2.out hbA)
      have HS4 := Lib.hid (below_al w4 (.cells #[.slice (some ⟨g4, 0, none⟩) ss.length ss.length] 30)).size
      have R4 := Lib.hid (R2.out.below hbA R2.out.lt)
      have P4 := Lib.hid (P2.out.below hbA P2.out.lt)
      clear hb4 hh4 ho4 hbA c2
      go_wp2
      generalize w4.alloc (.cells #[.slice (some ⟨g4, 0, none⟩) ss.length ss.length] 30) = wA at *
      have d0 := RA.out.cell (i := 0) (by rfl)
      have q0 := P4.out.cell (i := 0) (by rfl)
      have q1 := P4.out.cell (i := 1) (by rfl)
      go_cut [9, 10] (fun s9 s10 wx => ∃ (ok : Bool) (g : Nat), s9 = .pointer (some ⟨g, 0, none⟩) ∧ s10 = .bool ok ∧ GrBox ss a b wA.heap.size wx g ok ∧ Below wA.heap.size wA wx)
      case first =>
        go_region_held3 (fun w' => w'.cell? ⟨w4.heap.size, 0, none⟩ = some (.slice (some ⟨g4, 0, none⟩) ss.length ss.length) ∧ w'.cell? ⟨w.heap.size + 1, 0, none⟩ = some (.int .i64 a) ∧ w'.cell? ⟨w.heap.size + 1, 1, none⟩ = some (.int .i64 b) ∧ Below w.heap.size w w' ∧ Below wA.heap.size wA w')
          (first
            | exact held_of d0 q0 q1 BA.out (Below.refl _ _)
            | exact held_of d0 q0 q1 BA.out (Below.refl _ _).drew
            | exact held_of d0 q0 q1 BA.out ((Below.refl _ _).alloc (Nat.le_refl _) _).drew
            | exact held_of d0 q0 q1 BA.out hBs
            | exact held_of d0 q0 q1 BA.out hBp
            | exact held_of d0 q0 q1 BA.out hBg
            | exact held_of d0 q0 q1 BA.out (hBs.alloc hBs.size _)
            | exact held_of d0 q0 q1 BA.out (hBp.alloc hBp.size _)
            | exact held_of d0 q0 q1 BA.out (hBg.alloc hBg.size _)
            | exact held_of d0 q0 q1 BA.out (hBs.setCell (Nat.le_refl _) _)
            | exact held_of d0 q0 q1 BA.out (hBs.setCell hBg.size _)
            | exact held_of d0 q0 q1 BA.out (hBs.setCell hBp.size _))
          (first
            | (go_at_call 16; refine (toPlace_any a b _).mono ?_; rintro e wp ⟨rfl, hbp⟩; have hBp := Below.trans (show Below wA.heap.size wA _ from (And.right (And.right (And.right (And.right (by assumption)))))) (hbp.mono (Below.size (And.right (And.right (And.right (And.right (by assumption))))))); (first | (have hz := Row.below hz hbp hz.lt; have z0 := hz.cell (i := 0) (by rfl); have zf0 := hz.frozen 0) | (have hz := Row.below (Row.new _ [.slice none 0 0] 30) hbp (by simp); (try simp only [drew_size] at hz); have z0 := hz.cell (i := 0) (by rfl); have zf0 := hz.frozen 0) | (have hz := Row.below (Row.drew (Row.new _ [.slice none 0 0] 30)) hbp (by simp); (try simp only [drew_size] at hz); have z0 := hz.cell (i := 0) (by rfl); have zf0 := hz.frozen 0) | skip))
            | (go_at_call 17; refine (implRemoveItem_any ss HF.out _ _ a b HWF.out.1 HWF.out.2 _ (HA.out.below (show Below wA.heap.size wA _ from (And.right (And.right (And.right (And.right (by assumption)))))) (Nat.le_refl _)) (HE.out.at (And.left (And.right (And.right (And.right (by assumption))))))).mono ?_; intro e ws hgot; obtain ⟨oX, cX, zs, hsX, ok, rfl, hv, -, hO, hbs⟩ := hgot.val; have hO := hO.lower (Below.size (show Below wA.heap.size wA _ from (And.right (And.right (And.right (And.right (by assumption))))))); have hBs := Below.trans (show Below wA.heap.size wA _ from (And.right (And.right (And.right (And.right (by assumption)))))) (hbs.mono (Below.size (And.right (And.right (And.right (And.right (by assumption))))))); (first | (have hz := Row.below hz hbs hz.lt; have z0 := hz.cell (i := 0) (by rfl); have zf0 := hz.frozen 0) | (have hz := Row.below (Row.new _ [.slice none 0 0] 30) hbs (by simp); (try simp only [drew_size] at hz); have z0 := hz.cell (i := 0) (by rfl); have zf0 := hz.frozen 0) | (have hz := Row.below (Row.drew (Row.new _ [.slice none 0 0] 30)) hbs (by simp); (try simp only [drew_size] at hz); have z0 := hz.cell (i := 0) (by rfl); have zf0 := hz.frozen 0) | skip)))
        all_goals go_wp2
        all_goals go_meet
        all_goals first
          | exact ⟨ok, _, rfl, rfl, GrBox.new hv hO hBs.size, hBs.alloc hBs.size _⟩
          | exact ⟨ok, _, rfl, rfl, GrBox.set hv hO hz hBp.size, hBs.setCell hBp.size _⟩
          | exact ⟨ok, _, rfl, rfl, GrBox.set hv hO hz hBg.size, hBs.setCell hBg.size _⟩
          | exact ⟨ok, _, rfl, rfl, GrBox.set hv hO hz (Nat.le_refl _), hBs.setCell (Nat.le_refl _) _⟩
      case rest =>
        obtain ⟨ok9, g9, rfl, rfl, ⟨o9, c9, ys, hs9, hv9, hg9, hr9, hh9, hO9⟩, hbc⟩ := hcut
        obtain ⟨rfl, rfl⟩ := V2.out.same hv9
        have G9 := Lib.hid hg9
        have N5 := Lib.hid (belowN NA.out hbc (Nat.le_refl _))
        have RX5 := Lib.hid (RA.out.below hbc RA.out.lt)
        have H5 := Lib.hid (HA.out.below hbc (Nat.le_refl _))
        have O5 := Lib.hid (OA.out.below hbc)
        have J5 := Lib.hid hr9
        have G5 := Lib.hid hO9
        have K5 := Lib.hid hh9
        have hbb : (ok == ok) = true := by simp
        have hbn : (ok != ok) = false := by simp
        have e6 := (I2.out.below N5.out I2.out.lt).cell (i := 0) (by rfl)
        have e9 := J5.out.cell (i := 0) (by rfl)
        have W5 := Lib.hid (W2.out.below N5.out (Nat.le_refl _))
        clear hbc hr9 hv9 hh9 hO9 hg9 d0 q0 q1
        go_wp2_with fail
        refine (eqGraph_same xs o9 oW c9 cW _ (by have := SM.out.len; omega) (fun s hs => by have := SM.out.items s hs; omega) K5.out W5.out).mono ?_
        rintro e w6 ⟨rfl, hb6⟩
        have N6 := Lib.hid (belowN N5.out hb6 (Nat.le_refl _))
        have RX6 := Lib.hid (RX5.out.below hb6 RX5.out.lt)
        have H6 := Lib.hid (H5.out.below hb6 (Nat.le_refl _))
        have O6 := Lib.hid (O5.out.below hb6)
        have J6 := Lib.hid (J5.out.below hb6 J5.out.lt)
        have G6 := Lib.hid (G5.out.below hb6)
        have R6 := Lib.hid (R2.out.below N6.out R2.out.lt)
        clear hb6 e6 e9
        have c6 := R6.out.cell (i := 0) (by rfl)
        have d6 := RX6.out.cell (i := 0) (by rfl)
        have c6' := (((Below.refl _ _).drew).cell (p := ⟨w.heap.size, 0, none⟩) R6.out.lt).trans c6
        have d6' := (((Below.refl _ _).drew).cell (p := ⟨w4.heap.size, 0, none⟩) RX6.out.lt).trans d6
        go_wp2
        go_cut [51] (fun s wx => s = .bool false ∧ Below w6.heap.size w6 wx)
        case first =>
          go_region_with (first
            | (go_at_call 15; refine (toGraph_holds HF.out oa cap HC.out (belowS B2.out N6.out).drew).mono ?_; rintro e w7 ⟨g7, rfl, hh7, hb7⟩; have H7 := Lib.hid hh7; have B7 := Lib.hid (show Below w6.heap.size w6 w7 from ((Below.refl _ _).drew).trans hb7); have d7 := (RX6.out.below B7.out RX6.out.lt).cell (i := 0) (by rfl); clear hh7 hb7)
            | (go_at_call 18; refine (eqGraph_fair HF.out H6.out H7.out B7.out (Below.refl _ _)).mono ?_; rintro e w8 ⟨rfl, hb8⟩; have B8 := Lib.hid (belowS B7.out hb8); clear hb8))
          all_goals go_wp2
          all_goals go_meet
          all_goals exact ⟨rfl, B8.out⟩
        case rest =>
          obtain ⟨rfl, hbc⟩ := hcut
          have NC := Lib.hid (belowN N6.out hbc (Nat.le_refl _))
          have OC := Lib.hid (O6.out.below hbc)
          have JC := Lib.hid (J6.out.below hbc J6.out.lt)
          have GC := Lib.hid (G6.out.below hbc)
          have dc := (RX6.out.below hbc RX6.out.lt).cell (i := 0) (by rfl)
          clear hbc c6 d6 c6' d6'
          go_wp2_with fail
          refine (markGraph_any g4 _ _ _ vs4 ss 1 _ HW.out (by omega) (by omega) OC.out).mono ?_
          rintro e w7 ⟨rfl, hm7⟩
          have N7 := Lib.hid (NC.out.trans (hm7.below (Nat.le_refl _) NC.out.size))
          have J7 := Lib.hid (JC.out.same (hm7.rest g9 JC.out.lt (.inr (Nat.le_trans HS4.out G9.out))))
          have G7 := Lib.hid (GC.out.mid HS4.out hm7)
          have hmk : decide ((1 : Int) + (marks ss : Int) < 0) = false := by simp; omega
          have hml : marks ss ≤ 3145728 := by have := marks_le ss; have := HW.out; omega
          have e6 := (I2.out.below N7.out I2.out.lt).cell (i := 0) (by rfl)
          have e9 := J7.out.cell (i := 0) (by rfl)
          clear hm7 dc
          go_wp2_with fail
          refine (eqGraph_same xs o9 oW c9 cW _ (by have := SM.out.len; omega) (fun s hs => by have := SM.out.items s hs; omega) G7.out.holds_at (W2.out.below N7.out (Nat.le_refl _))).mono ?_
          rintro e w8 ⟨rfl, hb8⟩
          have N8 := Lib.hid (belowN N7.out hb8 (Nat.le_refl _))
          have J8 := Lib.hid (J7.out.below hb8 J7.out.lt)
          have G8 := Lib.hid (G7.out.below hb8)
          have e9 := J8.out.cell (i := 0) (by rfl)
          have hwA : wA.heap.size ≤ w8.heap.size := Nat.le_trans G9.out (Nat.le_of_lt J8.out.lt)
          have hmx := SM.out.marks
          clear hb8 e6
          go_wp2_with fail
          refine (markGraph_own (.slice o9 xs.length c9) wA.heap.size xs hs9 _ hwA (by have := SM.out.len; omega) (fun s hs => by have := SM.out.items s hs; omega) hmx G8.out).mono ?_
          rintro e w9 ⟨rfl, hm9, hb9, hk9⟩
          have N9 := Lib.hid (N8.out.trans (hb9.mono NA.out.size))
          have J9 := Lib.hid (hk9 g9 _ _ J8.out (by decide) (by decide))
          have M9 := Lib.hid hm9
          have e9 := J9.out.cell (i := 0) (by rfl)
          have hq0 : decide ((1 : Int) + (marks xs : Int) < 0) = false := by simp; omega
          have hqq : ((1 : Int) + (marks xs : Int) == 1 + (marks xs : Int)) = true := by simp
          have hqn : ((1 : Int) + (marks xs : Int) != 1 + (marks xs : Int)) = false := by simp
          clear hm9 hb9 hk9
          go_wp2_with fail
          refine (heldGraph_marked (.slice o9 xs.length c9) xs _ (by have := SM.out.len; omega) (fun s hs => by have := SM.out.items s hs; omega) hmx M9.out).mono ?_
          rintro e w10 ⟨rfl, hb10⟩
          have N10 := Lib.hid (belowN N9.out hb10 (Nat.le_refl _))
          have J10 := Lib.hid (J9.out.below hb10 J9.out.lt)
          have M10 := Lib.hid (M9.out.below hb10)
          have B10 := Lib.hid (belowS B2.out N10.out)
          have R10 := Lib.hid (R2.out.below N10.out R2.out.lt)
          have P10 := Lib.hid (P2.out.below N10.out P2.out.lt)
          have c0 := R10.out.cell (i := 0) (by rfl)
          have p0 := P10.out.cell (i := 0) (by rfl)
          have p1 := P10.out.cell (i := 1) (by rfl)
          clear hb10 e9
          go_wp2
          go_cut [14, 15] (fun s14 s15 wx => ∃ (ok : Bool) (g : Nat), s14 = .pointer (some ⟨g, 0, none⟩) ∧ s15 = .bool ok ∧ GrBox ss a b w10.heap.size wx g ok ∧ Below w10.heap.size w10 wx)
          case first =>
            go_region_held3 (fun w' => w'.cell? ⟨w.heap.size, 0, none⟩ = some (.slice oa ss.length cap) ∧ w'.cell? ⟨w.heap.size + 1, 0, none⟩ = some (.int .i64 a) ∧ w'.cell? ⟨w.heap.size + 1, 1, none⟩ = some (.int .i64 b) ∧ Below w.heap.size w w' ∧ Below w10.heap.size w10 w')
              (first
                | exact held_of c0 p0 p1 B10.out (Below.refl _ _)
                | exact held_of c0 p0 p1 B10.out (Below.refl _ _).drew
                | exact held_of c0 p0 p1 B10.out ((Below.refl _ _).alloc (Nat.le_refl _) _).drew
                | exact held_of c0 p0 p1 B10.out hBs
                | exact held_of c0 p0 p1 B10.out hBp
                | exact held_of c0 p0 p1 B10.out hBg
                | exact held_of c0 p0 p1 B10.out (hBs.alloc hBs.size _)
                | exact held_of c0 p0 p1 B10.out (hBp.alloc hBp.size _)
                | exact held_of c0 p0 p1 B10.out (hBg.alloc hBg.size _)
                | exact held_of c0 p0 p1 B10.out (hBs.setCell (Nat.le_refl _) _)
                | exact held_of c0 p0 p1 B10.out (hBs.setCell hBg.size _)
                | exact held_of c0 p0 p1 B10.out (hBs.setCell hBp.size _))
              (first
                | (go_at_call 15; refine (toGraph_holds HF.out oa cap HC.out (And.left (And.right (And.right (And.right (by assumption)))))).mono ?_; rintro e wg ⟨gg, rfl, hhg, hbg⟩; have hBg := Below.trans (show Below w10.heap.size w10 _ from (And.right (And.right (And.right (And.right (by assumption)))))) (hbg.mono (Below.size (And.right (And.right (And.right (And.right (by assumption))))))); (first | (have hz := Row.below hz hbg hz.lt; have z0 := hz.cell (i := 0) (by rfl); have zf0 := hz.frozen 0) | (have hz := Row.below (Row.new _ [.slice none 0 0] 30) hbg (by simp); (try simp only [drew_size] at hz); have z0 := hz.cell (i := 0) (by rfl); have zf0 := hz.frozen 0) | (have hz := Row.below (Row.drew (Row.new _ [.slice none 0 0] 30)) hbg (by simp); (try simp only [drew_size] at hz); have z0 := hz.cell (i := 0) (by rfl); have zf0 := hz.frozen 0) | skip))
                | (go_at_call 16; refine (toPlace_any a b _).mono ?_; rintro e wp ⟨rfl, hbp⟩; have hBp := Below.trans (show Below w10.heap.size w10 _ from (And.right (And.right (And.right (And.right (by assumption)))))) (hbp.mono (Below.size (And.right (And.right (And.right (And.right (by assumption))))))); try (have hhg := HoldsScopes.below hhg (show Below _ _ _ from by first | exact hbp | exact (below_al _ _).trans (hbp.mono (by simp))) (Nat.le_refl _)); (first | (have hz := Row.below hz hbp hz.lt; have z0 := hz.cell (i := 0) (by rfl); have zf0 := hz.frozen 0) | (have hz := Row.below (Row.new _ [.slice none 0 0] 30) hbp (by simp); (try simp only [drew_size] at hz); have z0 := hz.cell (i := 0) (by rfl); have zf0 := hz.frozen 0) | (have hz := Row.below (Row.drew (Row.new _ [.slice none 0 0] 30)) hbp (by simp); (try simp only [drew_size] at hz); have z0 := hz.cell (i := 0) (by rfl); have zf0 := hz.frozen 0) | skip))
                | (go_at_call 17; refine (implRemoveItem_any ss HF.out _ _ a b HWF.out.1 HWF.out.2 _ (by first | exact hhg | exact hhg.below (below_al _ _) (Nat.le_refl _)) (HE.out.at (And.left (And.right (And.right (And.right (by assumption))))))).mono ?_; intro e ws hgot; obtain ⟨oX, cX, zs, hsX, ok, rfl, hv, -, hO, hbs⟩ := hgot.val; have hO := hO.lower (Below.size (show Below w10.heap.size w10 _ from (And.right (And.right (And.right (And.right (by assumption))))))); have hBs := Below.trans (show Below w10.heap.size w10 _ from (And.right (And.right (And.right (And.right (by assumption)))))) (hbs.mono (Below.size (And.right (And.right (And.right (And.right (by assumption))))))); (first | (have hz := Row.below hz hbs hz.lt; have z0 := hz.cell (i := 0) (by rfl); have zf0 := hz.frozen 0) | (have hz := Row.below (Row.new _ [.slice none 0 0] 30) hbs (by simp); (try simp only [drew_size] at hz); have z0 := hz.cell (i := 0) (by rfl); have zf0 := hz.frozen 0) | (have hz := Row.below (Row.drew (Row.new _ [.slice none 0 0] 30)) hbs (by simp); (try simp only [drew_size] at hz); have z0 := hz.cell (i := 0) (by rfl); have zf0 := hz.frozen 0) | skip)))
            all_goals go_wp2
            all_goals go_meet
            all_goals first
              | exact ⟨ok, _, rfl, rfl, GrBox.new hv hO hBs.size, hBs.alloc hBs.size _⟩
              | exact ⟨ok, _, rfl, rfl, GrBox.set hv hO hz hBp.size, hBs.setCell hBp.size _⟩
              | exact ⟨ok, _, rfl, rfl, GrBox.set hv hO hz hBg.size, hBs.setCell hBg.size _⟩
              | exact ⟨ok, _, rfl, rfl, GrBox.set hv hO hz (Nat.le_refl _), hBs.setCell (Nat.le_refl _) _⟩
          case rest =>
            obtain ⟨ok14, g14, rfl, rfl, ⟨o14, c14, zs, hs14, hv14, hg14, hr14, hh14, -⟩, hbc⟩ := hcut
            obtain ⟨rfl, rfl⟩ := V2.out.same hv14
            have N11 := Lib.hid (belowN N10.out hbc (Nat.le_refl _))
            have J11 := Lib.hid (J10.out.below hbc J10.out.lt)
            have M11 := Lib.hid (M10.out.below hbc)
            have K11 := Lib.hid hh14
            have e14 := hr14.cell (i := 0) (by rfl)
            have e6 := (I2.out.below N11.out I2.out.lt).cell (i := 0) (by rfl)
            have W11 := Lib.hid (W2.out.below N11.out (Nat.le_refl _))
            clear hbc hr14 hv14 hh14 hg14 c0 p0 p1
            go_wp2_with fail
            refine (eqGraph_same xs o14 oW c14 cW _ (by have := SM.out.len; omega) (fun s hs => by have := SM.out.items s hs; omega) K11.out W11.out).mono ?_
            rintro e w12 ⟨rfl, hb12⟩
            have N12 := Lib.hid (belowN N11.out hb12 (Nat.le_refl _))
            have J12 := Lib.hid (J11.out.below hb12 J11.out.lt)
            have M12 := Lib.hid (M11.out.below hb12)
            have e9 := J12.out.cell (i := 0) (by rfl)
            clear hb12 e14 e6
            go_wp2_with fail
            refine (heldGraph_marked (.slice o9 xs.length c9) xs _ (by have := SM.out.len; omega) (fun s hs => by have := SM.out.items s hs; omega) hmx M12.out).mono ?_
            rintro e w13 ⟨rfl, hb13⟩
            have N13 := Lib.hid (belowS B2.out (belowN N12.out hb13 (Nat.le_refl _)))
            clear hb13 e9
            go_wp2
            go_ret
            exact ⟨rfl, N13.out⟩
  · rw [rest_neg (by omega)] at C0
    clear hn hc hE hb0 hf hI
    go_enter Tryd.func3, Tryd.ntmps3
    go_wp2_with fail
    refine C0.out.mono ?_
    rintro e w1 ⟨rfl, hb1⟩
    have B1 := Lib.hid (belowS HB0.out hb1)
    clear hb1
    go_wp2
    go_ret
    exact ⟨rfl, B1.out⟩
end Go.Proofs.YtppgdigcopkeiaaDoor
