/-
  The walks of impl's slices.Clone at items, (Scope).clone and (Graph).clone, and of the given l6Copy: a copy of a graph, in memory of the call's own. Condition: the argument's memory holds the graph.
-/
import Derived.Test.YtadpgoiiopfnnaaDoorParseT
import Derived.Test.YtadpgoiiopfnnaaDoorRegionRound
import Derived.Test.YtadpgoiiopfnnaaDoorWSpecChain
import Derived.Lib.SliceRun
namespace Go.Proofs.YtadpgoiiopfnnaaDoor
open Go Go.RowKit
set_option maxRecDepth 100000 in
set_option maxHeartbeats 1600000 in
theorem cloneItems_any (xs : List It) (oi : Option Addr) (ci : Nat) (hn : xs.length < 1048577) (w : World) (hc : HoldsItems w oi xs) :
    Calls Tryd.prog 162 #[.slice oi xs.length ci] w fun e w' => ∃ o' c', e = .returned (.slice o' xs.length c') ∧ w'.ownsRow w.heap.size 65 3 (.slice o' xs.length c') xs.length (itemCells xs) ∧ Below w.heap.size w w' := by
  cases oi with
  | none =>
    obtain rfl : xs = [] := by
      rcases hc with h | ⟨b, off, h, _⟩
      · exact h
      · cases h
    have hq := fun w' : World => Lib.run_eql_slice_nil (P := Tryd.prog) w' 88 65 none 0 ci 0 0 Tryd.underlying88
    go_enter Tryd.func162, Tryd.ntmps162
    go_wp2
    go_ret
    exact ⟨none, 0, rfl, World.ownsRow_nil _ _ _ _, Below.refl _ _⟩
  | some a =>
    have hb0 := (Below.refl w.heap.size w).alloc (Nat.le_refl _) (.cells #[] 65)
    have hown : (w.alloc (.cells #[] 65)).ownsRow w.heap.size 65 3 (.slice (some ⟨w.heap.size, 0, none⟩) 0 0) 0 [] := World.ownsRow_made w #[] 0 (Nat.le_refl _) (by unfold maxLen; omega) rfl
    have HC := Lib.hid (hc.below hb0 (Nat.le_refl _))
    have HB := Lib.hid hb0
    have HO := Lib.hid hown
    have hq := fun w' : World => Lib.run_eql_slice_nil (P := Tryd.prog) w' 88 65 (some a) xs.length ci 0 0 Tryd.underlying88
    clear hc hb0 hown
    go_enter Tryd.func162, Tryd.ntmps162
    go_wp2_with (at_builtin; refine wpList_append_items rfl _ _ rfl rfl HO.out (by simp) rfl HC.out (by omega) (by omega) ?_)
    intro v1 w1 hown1 hg1
    obtain ⟨o', c', rfl, -⟩ := holdsItems_of_owns (by simpa using hown1)
    have HB1 := Lib.hid (HB.out.trans (below_grown1 hg1 (by simp) (fun r e => by simp only [Value.ownBlock, Option.some.injEq] at e; omega)))
    have HOW := Lib.hid hown1
    clear hown1 hg1
    go_wp2
    go_ret
    exact ⟨o', c', rfl, by simpa using HOW.out, HB1.out⟩
set_option maxRecDepth 100000 in
set_option maxHeartbeats 1600000 in
theorem scopeClone_any (s : Sc) (oi : Option Addr) (ci : Nat) (hn : s.items.length < 1048577) (w : World) (hc : HoldsItems w oi s.items) :
    Calls Tryd.prog 140 #[.agg #[.int .i64 s.parent, .slice oi s.items.length ci]] w fun e w' => ∃ o' c', e = .returned (.agg #[.int .i64 s.parent, .slice o' s.items.length c']) ∧ w'.ownsRow w.heap.size 65 3 (.slice o' s.items.length c') s.items.length (itemCells s.items) ∧ Below w.heap.size w w' := by
  obtain ⟨p, xs⟩ := s
  dsimp only at hn hc ⊢
  have hb0 : Below w.heap.size w ((w.alloc (.cells #[.int .i64 p, .slice oi xs.length ci] 90)).alloc (.cells #[.int .i64 0, .slice none 0 0] 90)) := ((Below.refl _ _).alloc (Nat.le_refl _) _).alloc (by simp) _
  have R1 := (Row.new w [.int .i64 p, .slice oi xs.length ci] 90).alloc (.cells #[.int .i64 0, .slice none 0 0] 90)
  have R2 := Row.new (w.alloc (.cells #[.int .i64 p, .slice oi xs.length ci] 90)) [.int .i64 0, .slice none 0 0] 90
  rw [World.size_alloc] at R2
  have C := Lib.hid ((callsIn_wide (n := 5)).2 (cloneItems_any xs oi ci hn _ (hc.below (hb0.drew) (Nat.le_refl _))))
  have HB := Lib.hid hb0
  have HR2 := Lib.hid R2
  have s0 := cell_drew (R1.cell (i := 0) (by rfl))
  have s1 := cell_drew (R1.cell (i := 1) (by rfl))
  clear hc hb0 R1 R2
  go_enter Tryd.func140, Tryd.ntmps140
  go_wp2
  refine wp_region_kept (S := fun w' => w'.cell? ⟨w.heap.size, 0, none⟩ = some (.int .i64 p) ∧ w'.cell? ⟨w.heap.size, 1, none⟩ = some (.slice oi xs.length ci)) 20 (by kernel_rfl) ?_
  have hS0 := And.intro s0 s1
  refine KeptAny.take (i := 0) (v := ?_) (by kernel_rfl) rfl rfl (by kernel_rfl) (by kernel_rfl) (by kernel_rfl) (fun _ _ _ h => h) (by rfl) (fun w' hw' => ?_) (fun _ => rfl) hS0 ?_
  rotate_left
  · (obtain ⟨g0, g1⟩ := hw'; go_simp; try with_reducible rfl)
  refine KeptAny.take (i := 1) (v := ?_) (by kernel_rfl) rfl rfl (by kernel_rfl) (by kernel_rfl) (by kernel_rfl) (fun _ _ _ h => h) (by rfl) (fun w' hw' => ?_) (fun _ => rfl) hS0 ?_
  rotate_left
  · (obtain ⟨g0, g1⟩ := hw'; go_simp; try with_reducible rfl)
  refine KeptAny.take (i := 2) (v := ?_) (by kernel_rfl) rfl rfl (by kernel_rfl) (by kernel_rfl) (by kernel_rfl) (fun _ _ _ h => h) (by rfl) (fun w' hw' => ?_) (fun _ => rfl) hS0 ?_
  rotate_left
  · (obtain ⟨g0, g1⟩ := hw'; go_simp; try with_reducible rfl)
  refine KeptAny.take (i := 3) (v := ?_) (by kernel_rfl) rfl rfl (by kernel_rfl) (by kernel_rfl) (by kernel_rfl) (fun _ _ _ h => h) (by rfl) (fun w' hw' => ?_) (fun _ => rfl) hS0 ?_
  rotate_left
  · (obtain ⟨g0, g1⟩ := hw'; go_simp; try with_reducible rfl)
  refine KeptAny.one (i := 4) (by kernel_rfl) rfl (by rfl) (fun K hK => ?_)
  go_simp
  refine ⟨trivial, ?_⟩
  refine C.out.mono ?_
  rintro e w4 ⟨o', c', rfl, hown, hb4⟩
  have HO := Lib.hid hown
  have HB4 := Lib.hid (HB.out.drew.trans (hb4.mono HB.out.size))
  have HR4 := Lib.hid (HR2.out.drew.below hb4 HR2.out.drew.lt)
  have hS4 := And.intro (cell_grow hb4 hS0.1) (cell_grow hb4 hS0.2)
  have n0 := HR4.out.cell (i := 0) (v := .int .i64 0) (by rfl)
  have n1 := HR4.out.cell (i := 1) (v := .slice none 0 0) (by rfl)
  have f0 := HR4.out.frozen 0
  have f1 := HR4.out.frozen 1
  clear hown hb4 hS0 s0 s1
  refine hK.out _ _ hS4 (fun _ => ?_)
  clear hK
  refine KeptAny.take (i := 5) (v := ?_) (by kernel_rfl) rfl rfl (by kernel_rfl) (by kernel_rfl) (by kernel_rfl) (fun _ _ _ h => h) (by rfl) (fun w' hw' => ?_) (fun _ => rfl) hS4 ?_
  rotate_left
  · (obtain ⟨g0, g1⟩ := hw'; go_simp; try with_reducible rfl)
  have hT1 := HR4.out.set 0 (.int .i64 p)
  have hT := hT1.set 1 (.slice o' xs.length c')
  have m1 := hT1.cell (i := 1) (v := .slice none 0 0) (by rfl)
  have l1 := hT1.frozen 1
  have HT := Lib.hid hT
  have hne : w.heap.size ≠ w.heap.size + 1 := by omega
  have HS5 := Lib.hid (And.intro (((World.cell?_of_block (Below.heap_setCell _ _ _ _ (by show w.heap.size ≠ w.heap.size + 1; omega))).trans ((World.cell?_of_block (Below.heap_setCell _ _ _ _ (by show w.heap.size ≠ w.heap.size + 1; omega))).trans hS4.1) : ((w4.setCell ⟨w.heap.size + 1, 0, none⟩ (.int .i64 p)).setCell ⟨w.heap.size + 1, 1, none⟩ (.slice o' xs.length c')).cell? ⟨w.heap.size, 0, none⟩ = _)) (((World.cell?_of_block (Below.heap_setCell _ _ _ _ (by show w.heap.size ≠ w.heap.size + 1; omega))).trans ((World.cell?_of_block (Below.heap_setCell _ _ _ _ (by show w.heap.size ≠ w.heap.size + 1; omega))).trans hS4.2) : ((w4.setCell ⟨w.heap.size + 1, 0, none⟩ (.int .i64 p)).setCell ⟨w.heap.size + 1, 1, none⟩ (.slice o' xs.length c')).cell? ⟨w.heap.size, 1, none⟩ = _)))
  clear hT1 hT hS4
  refine KeptAny.one (i := 6) (by kernel_rfl) rfl (by rfl) (fun K hK => ?_)
  go_simp
  refine hK.out _ _ HS5.out (fun _ => ?_)
  clear hK
  refine KeptAny.done (by kernel_rfl) ?_ _
  have d0 := HT.out.cell (i := 0) (v := .int .i64 p) (by rfl)
  have d1 := HT.out.cell (i := 1) (v := .slice o' xs.length c') (by rfl)
  clear n0 n1 m1 f0 f1 l1
  go_wp2
  refine bodyPost_ret (v := .agg #[.int .i64 p, .slice o' xs.length c']) (by simp [results, Tryd.results140, go_sem, d0, d1]) rfl ⟨o', c', rfl, ?_, ?_⟩
  · exact ((ownsRow_setFar (ownsRow_setFar HO.out (by simp) _) (by simp) _)).mono (by simp; omega)
  · exact (HB4.out.setCell (by simp) _).setCell (by simp) _
set_option maxRecDepth 100000 in
set_option maxHeartbeats 4000000 in
theorem implClone_any (ss : List Sc) (oa : Option Addr) (cap : Nat) (hn : ss.length ≤ 1048576) (hn2 : ∀ s ∈ ss, s.items.length < 1048577) (w : World) (hc : HoldsScopes w oa ss) :
    Calls Tryd.prog 102 #[.agg #[.slice oa ss.length cap]] w fun e w' => ∃ v hs, e = .returned (.agg #[v]) ∧ OwnGr w' w.heap.size v ss hs ∧ Below w.heap.size w w' := by
  have hb0 : Below w.heap.size w ((w.alloc (.cells #[.slice oa ss.length cap] 30)).alloc (.cells #[.slice none 0 0] 30)) := ((Below.refl _ _).alloc (Nat.le_refl _) _).alloc (by simp) _
  have HR1 := Lib.hid ((Row.new w [.slice oa ss.length cap] 30).alloc (.cells #[.slice none 0 0] 30))
  have R2 := Row.new (w.alloc (.cells #[.slice oa ss.length cap] 30)) [.slice none 0 0] 30
  rw [World.size_alloc] at R2
  have HR2 := Lib.hid R2
  have HB := Lib.hid hb0
  have HC := Lib.hid hc
  have HN2 := Lib.hid hn2
  obtain ⟨i0, hi0, hz0, hz1, hz2⟩ := info_parts infoScope
  clear hc hn2 hb0 R2
  go_enter Tryd.func102, Tryd.ntmps102
  go_wp2_with (at_make; refine wpList_make_own _ rfl _ _ 28 rfl (w.heap.size + 1 + 1) 90 i0 _ 2 Tryd.underlying28 hi0 hz0 hz1 .i64 .i64 _ ss.length rfl rfl rfl (by rw [hz2]; omega) (by unfold maxLen; omega) (by simp) ?_; intro w1 hown1 hg1; have c1 := (HR1.out.grown hg1 (by simp)).cell (i := 0) (v := .slice oa ss.length cap) (by rfl); simp only [World.size_alloc] at hown1 ⊢)
  have hb1 : Below (w.heap.size + 1 + 1) _ w1 := below_grown1 hg1 (by simp) (fun r e => by cases e)
  have HB1 := Lib.hid (HB.out.trans (hb1.mono (by omega)))
  have HR1a := Lib.hid (HR1.out.below hb1 (by omega))
  have HR2a := Lib.hid (HR2.out.below hb1 (by omega))
  have HG0 : Hid (OwnGr w1 w.heap.size (.slice (some ⟨w.heap.size + 1 + 1, 0, none⟩) 0 ss.length) [] []) := Lib.hid ⟨rfl, hown1.mono (show w.heap.size ≤ w.heap.size + 1 + 1 by omega), by simp, by simp⟩
  clear hown1 hg1 hb1
  go_loopw [3, 13] (fun v i wr => ∃ (k : Nat) (hs : List Value), i = .int .i64 k ∧ k ≤ ss.length ∧ Hid (OwnGr wr w.heap.size v (ss.take k) hs ∧ Below w.heap.size w wr ∧ Row wr (w.heap.size + 1) 30 [.slice none 0 0])) (fun _ i _ => ss.length - (intOf i).toNat)
  case atStart => exact ⟨0, [], rfl, Nat.zero_le _, Lib.hid ⟨HG0.out, HB1.out, HR2a.out⟩⟩
  case round =>
    obtain ⟨k, hs, rfl, hk, hP⟩ := hrel
    by_cases hlt : k < ss.length
    · obtain ⟨s, hs'⟩ : ∃ s, ss[k]? = some s := ⟨_, List.getElem?_eq_getElem hlt⟩
      obtain ⟨b1, f1, rfl, hb1, hcell⟩ := HC.out.at (by omega)
      obtain ⟨oi, ci, x0, x1, hIt⟩ := hcell k s hs'
      have y0 := (hP.out.2.1.cell (p := ⟨b1, _, none⟩) hb1).trans x0
      have y1 := (hP.out.2.1.cell (p := ⟨b1, _, none⟩) hb1).trans x1
      have hbA := (Below.refl wr.heap.size wr).alloc (Nat.le_refl _) (.cells #[.int .i64 s.parent, .slice oi s.items.length ci] 90)
      have HIA := Lib.hid (hIt.below (hP.out.2.1.trans (hbA.mono hP.out.2.1.size)) (Nat.le_refl _))
      have HBA := Lib.hid (hP.out.2.1.trans (hbA.mono hP.out.2.1.size))
      have HGA := Lib.hid (hP.out.1.below hbA)
      have HRA := Lib.hid (hP.out.2.2.below hbA hP.out.2.2.lt)
      have C := Lib.hid (scopeClone_any s oi ci (HN2.out s (List.mem_of_getElem? hs')) _ HIA.out)
      have RS := Lib.hid (Row.new wr [.int .i64 s.parent, .slice oi s.items.length ci] 90)
      have z0 := RS.out.cell (i := 0) (by rfl)
      have z1 := RS.out.cell (i := 1) (by rfl)
      have HTK : Hid (ss.take (k + 1) = ss.take k ++ [s]) := Lib.hid (by rw [List.take_add_one, hs']; rfl)
      have hkl : (ss.take k).length = k := by rw [List.length_take]; omega
      have HKL := Lib.hid hkl
      have hbz := hP.out.2.1.size
      clear hs' hcell x0 x1 hIt hbA hkl
      go_wp2_with fail
      refine C.out.mono ?_
      rintro e w2 ⟨o', c', rfl, hown2, hb2⟩
      have HB2 := Lib.hid (HBA.out.trans (hb2.mono HBA.out.size))
      have HG2 := Lib.hid (HGA.out.below hb2)
      have HU2 := Lib.hid hown2
      have HRb := Lib.hid (HRA.out.below hb2 HRA.out.lt)
      have hrow := HG2.out.row
      rw [HKL.out] at hrow
      have HROW := Lib.hid hrow
      have hbs2 := HB2.out.size
      have hz3 : w.heap.size ≤ (wr.alloc (.cells #[.int .i64 s.parent, .slice oi s.items.length ci] 90)).heap.size := HBA.out.size
      clear hown2 hb2 hrow y0 y1 z0 z1
      go_wp2_with (at_builtin; refine wpList_append_own _ rfl _ _ 28 rfl w.heap.size 90 i0 _ 2 32 Tryd.underlying28 hi0 hz0 hz1 hz2 rfl (by decide) _ _ _ rfl (HROW.out.alloc _) ⟨w2.heap.size, 0, none⟩ 1 1 [.int .i64 s.parent, .slice o' s.items.length c'] rfl rfl ?c1 ?c2 ?c3 ?c4 ?c5 ?_)
      case c1 => exact cells_new2 _ _ _ _
      case c2 => intro u hu; simp only [List.mem_cons, List.not_mem_nil, or_false] at hu; rcases hu with rfl | rfl <;> rfl
      case c3 => unfold maxLen; omega
      case c4 => omega
      case c5 => simp only [World.size_alloc]; omega
      intro v' w3 hown3 hgrow _
      have HG3 : Hid (OwnGr w3 w.heap.size v' (ss.take (k + 1)) (hs ++ [.slice o' s.items.length c'])) := Lib.hid (by
        rw [HTK.out]
        refine OwnGr.snoc (p := s.parent) (xs := s.items) HGA.out HG2.out HU2.out hz3 hgrow ?_
        rw [HKL.out]
        exact hown3)
      have HB3 := Lib.hid (HB2.out.trans (((Below.refl w.heap.size w2).alloc hbs2 (.cells #[.int .i64 s.parent, .slice o' s.items.length c'] 90)).trans (below_grown1 hgrow (by simp; omega) (fun r e => (HROW.out.lt r e).1))))
      have HRc := Lib.hid ((HRb.out.alloc (.cells #[.int .i64 s.parent, .slice o' s.items.length c'] 90)).grown hgrow (ownsRow_ne2 HRb.out (by decide) HROW.out))
      clear hown3 hgrow
      go_wp2
      go_roundw
      case rel => exact ⟨k + 1, _, by go_num, by omega, Lib.hid ⟨HG3.out, HB3.out, HRc.out⟩⟩
      case measure => simp only [intOf]; omega
    · obtain rfl : k = ss.length := by omega
      have HG : Hid (OwnGr wr w.heap.size _ ss hs) := Lib.hid (by have := hP.out.1; rwa [List.take_length] at this)
      obtain ⟨ov, cv, rfl, -⟩ := HG.out.holds
      have n0 := hP.out.2.2.cell (i := 0) (v := .slice none 0 0) (by rfl)
      have f0 := hP.out.2.2.frozen 0
      have HT := Lib.hid (hP.out.2.2.set 0 (.slice ov ss.length cv))
      have hlt2 : w.heap.size + 1 < wr.heap.size := hP.out.2.2.lt
      have HGT : Hid (OwnGr (wr.setCell ⟨w.heap.size + 1, 0, none⟩ (.slice ov ss.length cv)) w.heap.size (.slice ov ss.length cv) ss hs) := Lib.hid (by
        refine ⟨HG.out.len, ownsRow_otherN HG.out.row hP.out.2.2 (by decide) 0 _, fun i s u h1 h2 => ownsRow_otherN (HG.out.items i s u h1 h2) hP.out.2.2 (by decide) 0 _, HG.out.apart⟩)
      go_wp2
      have d0 := HT.out.cell (i := 0) (v := .slice ov ss.length cv) (by rfl)
      refine bodyPost_ret (v := .agg #[.slice ov ss.length cv]) (by simp [results, Tryd.results102, go_sem, d0]) rfl ⟨_, hs, rfl, HGT.out, hP.out.2.1.setCell (by simp) _⟩
end Go.Proofs.YtadpgoiiopfnnaaDoor
