/-
  The walks of the given l7List and l7Changes. Conditions: both graphs are valid and lie in memory. The walk of the given l7Changes. Conditions: both graphs are valid and lie in memory; whatever stands in the first one stands in the second one at the same place. The walks of impl's slices.Equal at places and of (*comparison).same: whether an item means the same before and after, where it is told where each declaration stands. Conditions: two resolutions lie in memory; the function that is asked answers as is told. The walk of impl's (*comparison).same: whether an item means the same before and after, where it is told where each declaration stands. Conditions: two resolutions lie in memory; the function that is asked answers as is told. A range over an iterator that itself ranges over another: the contract of such an iterator ('SeqOwn'), and the statement's law over it. Plain facts about the model's walk. The contract of impl's iterator over what changes between two graphs: the places of the items that are there in the second one and mean something else. Conditions: a comparison lies in memory; whatever stands in the second graph is an item there. The walks of impl's slices.AppendSeq and slices.Collect over what changes, and of changedBetween. Conditions: both graphs lie in memory; the package-level errors hold errors; the function that is asked answers as is told. The walks of impl's changedByAdding, CapturedBy, ImportChanges and CanAdd. Conditions: the argument's memory holds the graph; the package-level errors hold errors. The walks of the given CapturedBy, ImportChanges and CanAdd. Condition: the argument's memory holds the graph.
-/
import Derived.Test.YtadpgoiiopfnnaaDoorJLookB
import Derived.Deep.RegionHeld3
import Derived.Test.YtadpgoiiopfnnaaDoorRegionRound
import Derived.Test.YtadpgoiiopfnnaaDoorWSpecRemove
import Derived.RangeFuncNested
import Derived.RangeFuncBound
import Derived.RangeFuncLeaves
import Derived.Test.YtadpgoiiopfnnaaDoorWAddI
import Derived.Test.YtadpgoiiopfnnaaDoorWSpecAddT
import Derived.Test.YtadpgoiiopfnnaaDoorWSpecMov2
namespace Go.Proofs.YtadpgoiiopfnnaaDoor
open Go Go.RowKit
set_option maxRecDepth 100000 in
set_option maxHeartbeats 4000000 in
theorem l7List_any (xs ys : List (Int × Int)) (ox oy : Option Addr) (cx cy : Nat) (w : World) (hx : xs.length ≤ 1000000) (hy : ys.length ≤ 1000000) (ax : ArgPlaces w ox xs) (ay : ArgPlaces w oy ys) :
    Calls Tryd.prog 83 #[.slice ox xs.length cx, .slice oy ys.length cy] w fun e w' => e = .returned (.bool (decide (xs = ys))) ∧ Below w.heap.size w w' := by
  have AX := Lib.hid ax
  have AY := Lib.hid ay
  clear ax ay
  obtain ⟨q, hq⟩ : ∃ q, decide (xs = ys) = q := ⟨_, rfl⟩
  rw [hq]
  have HQ := Lib.hid hq
  clear hq
  obtain ⟨ql, hql⟩ : ∃ ql, ((xs.length : Int) == (ys.length : Int)) = ql := ⟨_, rfl⟩
  have HL : Hid (ql = true ↔ xs.length = ys.length) := Lib.hid (by rw [← hql]; simp; omega)
  by_cases hd : ys.length < xs.length
  · have HD := Lib.hid hd
    go_enter Tryd.func83, Tryd.ntmps83
    go_wp2
    go_loopw [11] (fun i wr => ∃ k : Nat, i = .int .i64 k ∧ k ≤ ys.length ∧ Hid (∀ m, m < k → xs[m]? = ys[m]?) ∧ Hid (Below w.heap.size w wr)) (fun i _ => ys.length - (intOf i).toNat)
    case atStart => exact ⟨0, rfl, Nat.zero_le _, Lib.hid (fun m hm => absurd hm (by omega)), Lib.hid (Below.refl _ _)⟩
    case round =>
      obtain ⟨k, rfl, hk, HR, HW⟩ := hrel
      by_cases hlt : k < ys.length
      · have hlt1 : k < xs.length := by omega
        have hlt2 : k < ys.length := by omega
        obtain ⟨⟨a, b⟩, hp⟩ : ∃ p, xs[k]? = some p := ⟨_, List.getElem?_eq_getElem hlt1⟩
        obtain ⟨⟨c, d⟩, hp2⟩ : ∃ p, ys[k]? = some p := ⟨_, List.getElem?_eq_getElem hlt2⟩
        obtain ⟨b1, f1, rfl, hb1, q1⟩ := (AX.out.below HW.out).at (by omega)
        obtain ⟨b2, f2, rfl, hb2, q2⟩ := (AY.out.below HW.out).at (by omega)
        obtain ⟨x0, x1⟩ := q1 k _ hp
        obtain ⟨y0, y1⟩ := q2 k _ hp2
        have x0' := cell_drew x0
        have x1' := cell_drew x1
        have y0' := cell_drew y0
        have y1' := cell_drew y1
        dsimp only at x0 x1 y0 y1 x0' x1' y0' y1'
        have HNX : Hid ((a, b) = (c, d) → ∀ m, m < k + 1 → xs[m]? = ys[m]?) := Lib.hid (by
          intro h m hm
          by_cases he : m = k
          · subst he
            rw [hp, hp2, h]
          · exact HR.out m (by omega))
        have HBAD : Hid ((a, b) ≠ (c, d) → q = false) := Lib.hid (by
          intro h
          rw [← HQ.out]
          refine decide_eq_false fun e => h ?_
          rw [e, hp2] at hp
          exact (Option.some.inj hp).symm)
        clear hp hp2 q1 q2 hb1 hb2
        by_cases h1 : a = c
        · subst h1
          by_cases h2 : b = d
          · subst h2
            have HG := Lib.hid (HNX.out rfl)
            go_wp2
            go_region
            all_goals go_wp2
            all_goals go_roundw
            all_goals first
              | (case rel => exact ⟨k + 1, by go_num, by omega, HG, Lib.hid HW.out.drew⟩)
              | (case measure => simp only [intOf]; omega)
          · have HF := Lib.hid (HBAD.out (fun e => h2 (Prod.mk.inj e).2))
            have e1 : (b == d) = false := by simpa using h2
            go_wp2
            go_region
            all_goals go_wp2
            all_goals go_ret
            all_goals exact ⟨by rw [HF.out]; rfl, HW.out.drew⟩
        · have HF := Lib.hid (HBAD.out (fun e => h1 (Prod.mk.inj e).1))
          have e1 : (a == c) = false := by simpa using h1
          go_wp2
          go_region
          all_goals go_wp2
          all_goals go_ret
          all_goals exact ⟨by rw [HF.out]; rfl, HW.out.drew⟩
      · have hke : k = ys.length := by omega
        subst hke
        have HS : Hid (q = ql) := Lib.hid (by
          rw [← HQ.out]
          by_cases hl : xs.length = ys.length
          · rw [HL.out.2 hl]
            refine decide_eq_true (List.ext_getElem? fun m => ?_)
            by_cases hm : m < xs.length
            · exact HR.out m (by omega)
            · rw [List.getElem?_eq_none (by omega), List.getElem?_eq_none (by omega)]
          · cases ql with
            | true => exact absurd (HL.out.1 rfl) hl
            | false => exact decide_eq_false fun e => hl (by rw [e]))
        cases ql
        all_goals go_wp2
        all_goals go_ret
        all_goals exact ⟨by rw [HS.out]; rfl, HW.out⟩
  · have HD := Lib.hid hd
    go_enter Tryd.func83, Tryd.ntmps83
    go_wp2
    go_loopw [11] (fun i wr => ∃ k : Nat, i = .int .i64 k ∧ k ≤ xs.length ∧ Hid (∀ m, m < k → xs[m]? = ys[m]?) ∧ Hid (Below w.heap.size w wr)) (fun i _ => xs.length - (intOf i).toNat)
    case atStart => exact ⟨0, rfl, Nat.zero_le _, Lib.hid (fun m hm => absurd hm (by omega)), Lib.hid (Below.refl _ _)⟩
    case round =>
      obtain ⟨k, rfl, hk, HR, HW⟩ := hrel
      by_cases hlt : k < xs.length
      · have hlt1 : k < xs.length := by omega
        have hlt2 : k < ys.length := by omega
        obtain ⟨⟨a, b⟩, hp⟩ : ∃ p, xs[k]? = some p := ⟨_, List.getElem?_eq_getElem hlt1⟩
        obtain ⟨⟨c, d⟩, hp2⟩ : ∃ p, ys[k]? = some p := ⟨_, List.getElem?_eq_getElem hlt2⟩
        obtain ⟨b1, f1, rfl, hb1, q1⟩ := (AX.out.below HW.out).at (by omega)
        obtain ⟨b2, f2, rfl, hb2, q2⟩ := (AY.out.below HW.out).at (by omega)
        obtain ⟨x0, x1⟩ := q1 k _ hp
        obtain ⟨y0, y1⟩ := q2 k _ hp2
        have x0' := cell_drew x0
        have x1' := cell_drew x1
        have y0' := cell_drew y0
        have y1' := cell_drew y1
        dsimp only at x0 x1 y0 y1 x0' x1' y0' y1'
        have HNX : Hid ((a, b) = (c, d) → ∀ m, m < k + 1 → xs[m]? = ys[m]?) := Lib.hid (by
          intro h m hm
          by_cases he : m = k
          · subst he
            rw [hp, hp2, h]
          · exact HR.out m (by omega))
        have HBAD : Hid ((a, b) ≠ (c, d) → q = false) := Lib.hid (by
          intro h
          rw [← HQ.out]
          refine decide_eq_false fun e => h ?_
          rw [e, hp2] at hp
          exact (Option.some.inj hp).symm)
        clear hp hp2 q1 q2 hb1 hb2
        by_cases h1 : a = c
        · subst h1
          by_cases h2 : b = d
          · subst h2
            have HG := Lib.hid (HNX.out rfl)
            go_wp2
            go_region
            all_goals go_wp2
            all_goals go_roundw
            all_goals first
              | (case rel => exact ⟨k + 1, by go_num, by omega, HG, Lib.hid HW.out.drew⟩)
              | (case measure => simp only [intOf]; omega)
          · have HF := Lib.hid (HBAD.out (fun e => h2 (Prod.mk.inj e).2))
            have e1 : (b == d) = false := by simpa using h2
            go_wp2
            go_region
            all_goals go_wp2
            all_goals go_ret
            all_goals exact ⟨by rw [HF.out]; rfl, HW.out.drew⟩
        · have HF := Lib.hid (HBAD.out (fun e => h1 (Prod.mk.inj e).1))
          have e1 : (a == c) = false := by simpa using h1
          go_wp2
          go_region
          all_goals go_wp2
          all_goals go_ret
          all_goals exact ⟨by rw [HF.out]; rfl, HW.out.drew⟩
      · have hke : k = xs.length := by omega
        subst hke
        have HS : Hid (q = ql) := Lib.hid (by
          rw [← HQ.out]
          by_cases hl : xs.length = ys.length
          · rw [HL.out.2 hl]
            refine decide_eq_true (List.ext_getElem? fun m => ?_)
            by_cases hm : m < xs.length
            · exact HR.out m (by omega)
            · rw [List.getElem?_eq_none (by omega), List.getElem?_eq_none (by omega)]
          · cases ql with
            | true => exact absurd (HL.out.1 rfl) hl
            | false => exact decide_eq_false fun e => hl (by rw [e]))
        cases ql
        all_goals go_wp2
        all_goals go_ret
        all_goals exact ⟨by rw [HS.out]; rfl, HW.out⟩
end Go.Proofs.YtadpgoiiopfnnaaDoor
namespace Go.Proofs.YtadpgoiiopfnnaaDoor
open Go Go.RowKit
/-- Whether an item means something else in another graph, where it stands at the same place. -/
def chgAB (ss tt : List Sc) (q : Nat × Nat × It) : Bool := !decide (meanIt ss q = meanAt tt (q.1 : Int) (q.2.1 : Int))
theorem chgA_eq (ss tt : List Sc) : chgA ss tt = filtL (chgAB ss tt) (placed 0 ss) := rfl
set_option maxRecDepth 100000 in
set_option maxHeartbeats 8000000 in
theorem l7Changes_any (ss tt : List Sc) (hv : Valid ss) (hv2 : Valid tt) (hf : FitsScopes ss) (hf2 : FitsScopes tt) (hsub : ∀ q ∈ placed 0 ss, q ∈ placed 0 tt) (oa ob : Option Addr) (cap cbp : Nat) (w : World) (hc : HoldsScopes w oa ss) (hc2 : HoldsScopes w ob tt) :
    Calls Tryd.prog 78 #[.agg #[.slice oa ss.length cap], .agg #[.slice ob tt.length cbp]] w (PlsGot (chgA ss tt) w) := by
  have hb0 : Below w.heap.size w (((w.alloc (.cells #[.slice oa ss.length cap] 30)).alloc (.cells #[.slice ob tt.length cbp] 30)).alloc (.cells #[] 34)) := (((Below.refl _ _).alloc (Nat.le_refl _) _).alloc (by simp) _).alloc (by simp; omega) _
  have RG := Lib.hid (((Row.new w [.slice oa ss.length cap] 30).alloc (.cells #[.slice ob tt.length cbp] 30)).alloc (.cells #[] 34))
  have RH0 := (Row.new (w.alloc (.cells #[.slice oa ss.length cap] 30)) [.slice ob tt.length cbp] 30).alloc (.cells #[] 34)
  rw [World.size_alloc] at RH0
  have RH := Lib.hid RH0
  have hown0 : (((w.alloc (.cells #[.slice oa ss.length cap] 30)).alloc (.cells #[.slice ob tt.length cbp] 30)).alloc (.cells #[] 34)).ownsRow w.heap.size 34 2 (.slice (some ⟨w.heap.size + 1 + 1, 0, none⟩) 0 0) 0 [] := by
    have h0 := World.ownsRow_made (base := w.heap.size) (e := 34) (size := 2) ((w.alloc (.cells #[.slice oa ss.length cap] 30)).alloc (.cells #[.slice ob tt.length cbp] 30)) #[] 0 (by simp; omega) (by unfold maxLen; omega) rfl
    rw [World.size_alloc, World.size_alloc] at h0
    exact h0
  have h30 := placed_bound 0 ss 6 5 hv.count.2 hv.five
  have C3 := Lib.hid (l4Items_any ss (by have := hv.count.2; omega) (fun s hs => by have := hv.five s hs; omega) (by omega) oa cap _ (hc.below hb0 (Nat.le_refl _)))
  have HO0 := Lib.hid hown0
  have HB0 := Lib.hid hb0
  have HC := Lib.hid (And.intro hc hc2)
  have HF := Lib.hid (And.intro hf hf2)
  have HV := Lib.hid (And.intro hv (And.intro hv2 hsub))
  have g0 := RG.out.cell (i := 0) (by rfl)
  have HS1 : Hid (w.heap.size + 1 + 1 < (((w.alloc (.cells #[.slice oa ss.length cap] 30)).alloc (.cells #[.slice ob tt.length cbp] 30)).alloc (.cells #[] 34)).heap.size) := Lib.hid (by simp)
  clear hf hf2 hc hc2 hb0 hown0 RH0 hv hv2 hsub
  go_enter Tryd.func78, Tryd.ntmps78
  go_wp2_with fail
  generalize (((w.alloc (.cells #[.slice oa ss.length cap] 30)).alloc (.cells #[.slice ob tt.length cbp] 30)).alloc (.cells #[] 34)) = w2 at *
  refine C3.out.mono ?_
  rintro e w3 ⟨tl, rfl, htl, hb3⟩
  have hfar : tl = .slice none 0 0 ∨ tl.ownBlock ≠ (Value.slice (some ⟨w.heap.size + 1 + 1, 0, none⟩) 0 0).ownBlock := by
    rcases htl.2 with h1 | ⟨g, cp, cur, rfl, hgB, _⟩
    · exact .inl h1.1
    · refine .inr fun e => ?_
      simp only [Value.ownBlock, Option.some.injEq] at e
      have := HS1.out
      omega
  have HI3 : Hid (ItemsAt w w3 oa cap ss.length w2.heap.size (.slice (some ⟨w.heap.size + 1 + 1, 0, none⟩) 0 0) tl [] (plsAll (placed 0 ss)) ∧ Row w3 (w.heap.size + 1) 30 [.slice ob tt.length cbp]) := Lib.hid ⟨⟨RG.out.below hb3 RG.out.lt, ownsRow_below HO0.out hb3, htl, hfar, HB0.out.trans (hb3.mono HB0.out.size)⟩, RH.out.below hb3 RH.out.lt⟩
  obtain ⟨ot, ct, rfl, hat⟩ := argPlaces_of_owns htl
  have HLN : Hid ((plsAll (placed 0 ss)).length = (placed 0 ss).length) := Lib.hid (plsAll_length _)
  have hln : (plsAll (placed 0 ss)).length ≤ 30 := by rw [plsAll_length]; exact h30
  clear hb3 htl hat g0 hfar
  go_wp2
  go_loopw [5, 12] (fun v i wr => ∃ k : Nat, i = .int .i64 k ∧ k ≤ (plsAll (placed 0 ss)).length ∧ Hid (ItemsAt w wr oa cap ss.length w2.heap.size v (.slice ot (plsAll (placed 0 ss)).length ct) (filtL (chgAB ss tt) ((placed 0 ss).take k)) (plsAll (placed 0 ss)) ∧ Row wr (w.heap.size + 1) 30 [.slice ob tt.length cbp])) (fun _ i _ => (plsAll (placed 0 ss)).length - (intOf i).toNat)
  case atStart => exact ⟨0, rfl, Nat.zero_le _, HI3⟩
  case round =>
    obtain ⟨k, rfl, hk, hP⟩ := hrel
    by_cases hlt : k < (plsAll (placed 0 ss)).length
    · obtain ⟨⟨i, j, x⟩, hqk⟩ : ∃ q, (placed 0 ss)[k]? = some q := ⟨_, List.getElem?_eq_getElem (by rw [HLN.out] at hlt; exact hlt)⟩
      have hqm := List.mem_of_getElem? hqk
      obtain ⟨o', c', he', hat⟩ := argPlaces_of_owns hP.out.1.lst
      cases he'
      obtain ⟨b5, f5, rfl, hb5, q5⟩ := hat.at (by omega)
      obtain ⟨r0, r1⟩ := q5 k ((i : Int), (j : Int)) (plsAll_at hqk)
      have hba := (Below.refl wr.heap.size wr).alloc (Nat.le_refl _) (.cells #[.int .i64 (i : Int), .int .i64 (j : Int)] 34)
      have HPA := Lib.hid (And.intro (hP.out.1.step hba) (hP.out.2.below hba hP.out.2.lt))
      have g4 := HPA.out.1.box.cell (i := 0) (by rfl)
      have h4 := HPA.out.2.cell (i := 0) (v := .slice ob tt.length cbp) (by rfl)
      have RPB := Lib.hid (Row.new wr [.int .i64 (i : Int), .int .i64 (j : Int)] 34)
      have a0 := RPB.out.cell (i := 0) (v := .int .i64 (i : Int)) (by rfl)
      have a1 := RPB.out.cell (i := 1) (v := .int .i64 (j : Int)) (by rfl)
      have HST : Hid (filtL (chgAB ss tt) ((placed 0 ss).take (k + 1)) = filtL (chgAB ss tt) ((placed 0 ss).take k) ++ if chgAB ss tt (i, j, x) = true then [((i : Int), (j : Int))] else []) := Lib.hid (by rw [List.take_add_one, hqk]; exact filtL_snoc _ _ _)
      have HQM := Lib.hid hqm
      have HQ2 := Lib.hid (HV.out.2.2 _ hqm)
      have hsl : (filtL (chgAB ss tt) ((placed 0 ss).take k)).length < 1000000 := by
        have h1 := filtL_length (chgAB ss tt) ((placed 0 ss).take k)
        rw [List.length_take] at h1
        omega
      obtain ⟨q, hq⟩ : ∃ q, decide (meanIt ss (i, j, x) = meanIt tt (i, j, x)) = q := ⟨_, rfl⟩
      have HQB : Hid (chgAB ss tt (i, j, x) = !q) := Lib.hid (by rw [← hq]; unfold chgAB; rw [show meanAt tt (((i, j, x) : Nat × Nat × It).1 : Int) (((i, j, x) : Nat × Nat × It).2.1 : Int) = meanIt tt (i, j, x) from meanAt_of HQ2.out])
      have HQD := Lib.hid hq
      have HML := Lib.hid (And.intro (meanIt_length HV.out.1 (i, j, x)) (meanIt_length HV.out.2.1 (i, j, x)))
      have HSZ : Hid (w.heap.size ≤ wr.heap.size) := Lib.hid hP.out.1.below.size
      clear hba q5 hat hqk hqm hq
      go_wp2
      generalize wr.alloc (.cells #[.int .i64 (i : Int), .int .i64 (j : Int)] 34) = wA at *
      go_cut [23] (fun s23 wx => s23 = .bool (!q) ∧ Below wA.heap.size wA wx)
      case first =>
        refine wp_region_kept (S := fun w' => w'.cell? ⟨w.heap.size, 0, none⟩ = some (.slice oa ss.length cap) ∧ w'.cell? ⟨w.heap.size + 1, 0, none⟩ = some (.slice ob tt.length cbp) ∧ w'.cell? ⟨wr.heap.size, 0, none⟩ = some (.int .i64 (i : Int)) ∧ w'.cell? ⟨wr.heap.size, 1, none⟩ = some (.int .i64 (j : Int))) 20 (by kernel_rfl) ?_
        have hS0 := And.intro (cell_drew g4) (And.intro (cell_drew h4) (And.intro (cell_drew a0) (cell_drew a1)))
        refine KeptAny.take (i := 0) (v := ?_) (by kernel_rfl) rfl rfl (by kernel_rfl) (by kernel_rfl) (by kernel_rfl) (fun _ _ _ h => h) (by rfl) (fun w' hw' => ?_) (fun _ => rfl) hS0 ?_
        rotate_left
        · (obtain ⟨g0, g1, g2, g3⟩ := hw'; go_simp; try with_reducible rfl)
        refine KeptAny.take (i := 1) (v := ?_) (by kernel_rfl) rfl rfl (by kernel_rfl) (by kernel_rfl) (by kernel_rfl) (fun _ _ _ h => h) (by rfl) (fun w' hw' => ?_) (fun _ => rfl) hS0 ?_
        rotate_left
        · (obtain ⟨g0, g1, g2, g3⟩ := hw'; go_simp; try with_reducible rfl)
        refine KeptAny.take (i := 3) (v := ?_) (by kernel_rfl) rfl rfl (by kernel_rfl) (by kernel_rfl) (by kernel_rfl) (fun _ _ _ h => h) (by rfl) (fun w' hw' => ?_) (fun _ => rfl) hS0 ?_
        rotate_left
        · (obtain ⟨g0, g1, g2, g3⟩ := hw'; go_simp; try with_reducible rfl)
        refine KeptAny.take (i := 4) (v := ?_) (by kernel_rfl) rfl rfl (by kernel_rfl) (by kernel_rfl) (by kernel_rfl) (fun _ _ _ h => h) (by rfl) (fun w' hw' => ?_) (fun _ => rfl) hS0 ?_
        rotate_left
        · (obtain ⟨g0, g1, g2, g3⟩ := hw'; go_simp; try with_reducible rfl)
        have HD0 : Hid (Below wA.heap.size wA wA.drew) := Lib.hid ((Below.refl _ _).drew)
        have HS0 := Lib.hid hS0
        clear hS0 g4 h4 a0 a1
        refine KeptAny.one (i := 2) (by kernel_rfl) rfl (by rfl) (fun K hK => ?_)
        go_simp
        refine ⟨trivial, ?_⟩
        refine ((callsIn_wide (n := 5)).2 (specResolve_any ss HV.out.1 HF.out.1 oa cap HQM.out _ (HC.out.1.below (HPA.out.1.below.trans (HD0.out.mono HPA.out.1.below.size)) (Nat.le_refl _)))).mono ?_
        rintro e wa ⟨va, rfl, hown, hb⟩
        obtain ⟨o1, c1, rfl, hA⟩ := argPlaces_of_owns hown
        have HD1 := Lib.hid (HD0.out.trans (hb.mono HD0.out.size))
        have HS1a := Lib.hid (And.intro (cell_grow hb HS0.out.1) (And.intro (cell_grow hb HS0.out.2.1) (And.intro (cell_grow hb HS0.out.2.2.1) (cell_grow hb HS0.out.2.2.2))))
        have HA := Lib.hid hA
        clear hb hown hA
        refine hK.out _ _ HS1a.out (fun _ => ?_)
        clear hK
        refine KeptAny.one (i := 5) (by kernel_rfl) rfl (by rfl) (fun K hK => ?_)
        go_simp
        refine ⟨trivial, ?_⟩
        refine ((callsIn_wide (n := 5)).2 (specResolve_any tt HV.out.2.1 HF.out.2 ob cbp HQ2.out _ (HC.out.2.below (HPA.out.1.below.trans (HD1.out.mono HPA.out.1.below.size)) (Nat.le_refl _)))).mono ?_
        rintro e wb ⟨vb, rfl, hown, hb⟩
        obtain ⟨o2, c2, rfl, hB⟩ := argPlaces_of_owns hown
        have HD2 := Lib.hid (HD1.out.trans (hb.mono HD1.out.size))
        have HS2a := Lib.hid (And.intro (cell_grow hb HS1a.out.1) (And.intro (cell_grow hb HS1a.out.2.1) (And.intro (cell_grow hb HS1a.out.2.2.1) (cell_grow hb HS1a.out.2.2.2))))
        have HA2 := Lib.hid (HA.out.below hb)
        have HBP := Lib.hid hB
        clear hb hown hB
        refine hK.out _ _ HS2a.out (fun _ => ?_)
        clear hK
        refine KeptAny.one (i := 6) (by kernel_rfl) rfl (by rfl) (fun K hK => ?_)
        go_simp
        refine ⟨trivial, ?_⟩
        refine ((callsIn_wide (n := 5)).2 (l7List_any (meanIt ss (i, j, x)) (meanIt tt (i, j, x)) o1 o2 c1 c2 _ (Nat.le_trans HML.out.1 (by decide)) (Nat.le_trans HML.out.2 (by decide)) HA2.out HBP.out)).mono ?_
        rintro e wc ⟨rfl, hb⟩
        rw [HQD.out]
        have HD3 := Lib.hid (HD2.out.trans (hb.mono HD2.out.size))
        have HS3 := Lib.hid (And.intro (cell_grow hb HS2a.out.1) (And.intro (cell_grow hb HS2a.out.2.1) (And.intro (cell_grow hb HS2a.out.2.2.1) (cell_grow hb HS2a.out.2.2.2))))
        clear hb
        refine hK.out _ _ HS3.out (fun _ => ?_)
        clear hK
        refine KeptAny.one (i := 7) (by kernel_rfl) rfl (by rfl) (fun K hK => ?_)
        go_simp
        refine hK.out _ _ HS3.out (fun _ => ?_)
        clear hK
        refine KeptAny.done (by kernel_rfl) ?_ _
        go_wp2
        go_meet
        exact ⟨rfl, HD3.out⟩
      case rest =>
        obtain ⟨rfl, hbc⟩ := hcut
        have HP5 := Lib.hid (And.intro (HPA.out.1.step hbc) (HPA.out.2.below hbc HPA.out.2.lt))
        have RP5 := Lib.hid (RPB.out.below hbc RPB.out.lt)
        have p0 := RP5.out.cell (i := 0) (v := .int .i64 (i : Int)) (by rfl)
        have p1 := RP5.out.cell (i := 1) (v := .int .i64 (j : Int)) (by rfl)
        have HSZ5 := Lib.hid (Nat.le_trans HPA.out.1.below.size hbc.size)
        clear hbc g4 h4 r0 r1 a0 a1
        cases q
        · have HE : Hid (filtL (chgAB ss tt) ((placed 0 ss).take (k + 1)) = filtL (chgAB ss tt) ((placed 0 ss).take k) ++ [((i : Int), (j : Int))]) := Lib.hid (by rw [HST.out, show chgAB ss tt (i, j, x) = true from HQB.out]; rfl)
          obtain ⟨v', w7, hrun, hown', hgrow, hbl⟩ := append_place_at HP5.out.1.row (i : Int) (j : Int) hsl HSZ5.out 46
          have HP7 : Hid (ItemsAt w w7 oa cap ss.length w2.heap.size v' _ (filtL (chgAB ss tt) ((placed 0 ss).take (k + 1))) (plsAll (placed 0 ss)) ∧ Row w7 (w.heap.size + 1) 30 [.slice ob tt.length cbp]) := Lib.hid ⟨by rw [HE.out]; exact HP5.out.1.snoc hown' hgrow hbl, (HP5.out.2.alloc _).grown hgrow (ownsRow_ne2 HP5.out.2 (by decide) HP5.out.1.row)⟩
          have HRUN := Lib.hid hrun
          clear hown' hgrow hbl hrun
          go_wp2_with (at_builtin; refine wpList_append_run rfl _ _ 46 rfl HRUN.out ?_)
          go_wp2
          go_roundw
          case rel => exact ⟨k + 1, by go_num, by omega, HP7⟩
          case measure => simp only [intOf]; omega
        · have HE : Hid (filtL (chgAB ss tt) ((placed 0 ss).take (k + 1)) = filtL (chgAB ss tt) ((placed 0 ss).take k)) := Lib.hid (by rw [HST.out, if_neg (by rw [HQB.out]; decide), List.append_nil])
          go_wp2
          go_roundw
          case rel => exact ⟨k + 1, by go_num, by omega, by rw [HE.out]; exact HP5⟩
          case measure => simp only [intOf]; omega
    · obtain rfl : k = (plsAll (placed 0 ss)).length := by omega
      have HE : Hid ((placed 0 ss).take (plsAll (placed 0 ss)).length = placed 0 ss) := Lib.hid (by rw [HLN.out, List.take_length])
      go_wp2
      go_ret
      exact ⟨_, rfl, by have := hP.out.1.row; rw [HE.out] at this; exact this, hP.out.1.below⟩
end Go.Proofs.YtadpgoiiopfnnaaDoor
namespace Go.Proofs.YtadpgoiiopfnnaaDoor
open Go Go.RowKit Go.Maps
set_option maxRecDepth 100000 in
set_option maxHeartbeats 4000000 in
theorem equalPl_any (xs ys : List (Int × Int)) (ox oy : Option Addr) (cx cy : Nat) (w : World) (hx : xs.length ≤ 1000000) (hy : ys.length ≤ 1000000) (ax : ArgPlaces w ox xs) (ay : ArgPlaces w oy ys) :
    Calls Tryd.prog 164 #[.slice ox xs.length cx, .slice oy ys.length cy] w fun e w' => e = .returned (.bool (decide (xs = ys))) ∧ Below w.heap.size w w' := by
  have AX := Lib.hid ax
  have AY := Lib.hid ay
  clear ax ay
  by_cases hl : xs.length = ys.length
  · have l1 : ((xs.length : Int) != (ys.length : Int)) = false := by simp [hl]
    have l2 : ((xs.length : Int) == (ys.length : Int)) = true := by simp [hl]
    have HL := Lib.hid hl
    clear hl
    obtain ⟨q, hq⟩ : ∃ q, decide (xs = ys) = q := ⟨_, rfl⟩
    rw [hq]
    have HQ := Lib.hid hq
    clear hq
    go_enter Tryd.func164, Tryd.ntmps164
    go_wp2
    go_loopw [13] (fun i wr => ∃ k : Nat, i = .int .i64 k ∧ k ≤ xs.length ∧ Hid (∀ m, m < k → xs[m]? = ys[m]?) ∧ Hid (Below w.heap.size w wr)) (fun i _ => xs.length - (intOf i).toNat)
    case atStart => exact ⟨0, rfl, Nat.zero_le _, Lib.hid (fun m hm => absurd hm (by omega)), Lib.hid (Below.refl _ _)⟩
    case round =>
      obtain ⟨k, rfl, hk, HR, HW⟩ := hrel
      by_cases hlt : k < xs.length
      · have hlt2 : k < ys.length := by have := HL.out; omega
        obtain ⟨⟨a, b⟩, hp⟩ : ∃ p, xs[k]? = some p := ⟨_, List.getElem?_eq_getElem hlt⟩
        obtain ⟨⟨c, d⟩, hp2⟩ : ∃ p, ys[k]? = some p := ⟨_, List.getElem?_eq_getElem hlt2⟩
        obtain ⟨b1, f1, rfl, hb1, q1⟩ := (AX.out.below HW.out).at (by omega)
        obtain ⟨b2, f2, rfl, hb2, q2⟩ := (AY.out.below HW.out).at (by omega)
        obtain ⟨x0, x1⟩ := q1 k _ hp
        obtain ⟨y0, y1⟩ := q2 k _ hp2
        have x0' := cell_drew x0
        have x1' := cell_drew x1
        have y0' := cell_drew y0
        have y1' := cell_drew y1
        dsimp only at x0 x1 y0 y1 x0' x1' y0' y1'
        have HNX : Hid ((a, b) = (c, d) → ∀ m, m < k + 1 → xs[m]? = ys[m]?) := Lib.hid (by
          intro h m hm
          by_cases he : m = k
          · subst he
            rw [hp, hp2, h]
          · exact HR.out m (by omega))
        have HBAD : Hid ((a, b) ≠ (c, d) → q = false) := Lib.hid (by
          intro h
          rw [← HQ.out]
          refine decide_eq_false fun e => h ?_
          rw [e, hp2] at hp
          exact (Option.some.inj hp).symm)
        clear hp hp2 q1 q2 hb1 hb2
        by_cases h1 : a = c
        · subst h1
          by_cases h2 : b = d
          · subst h2
            have HG := Lib.hid (HNX.out rfl)
            go_wp2
            go_region
            all_goals go_wp2
            all_goals go_roundw
            all_goals first
              | (case rel => exact ⟨k + 1, by go_num, by omega, HG, Lib.hid HW.out.drew⟩)
              | (case measure => simp only [intOf]; omega)
          · have HF := Lib.hid (HBAD.out (fun e => h2 (Prod.mk.inj e).2))
            have e1 : (b == d) = false := by simpa using h2
            go_wp2
            go_region
            all_goals go_wp2
            all_goals go_ret
            all_goals exact ⟨by rw [HF.out]; rfl, HW.out.drew⟩
        · have HF := Lib.hid (HBAD.out (fun e => h1 (Prod.mk.inj e).1))
          have e1 : (a == c) = false := by simpa using h1
          go_wp2
          go_region
          all_goals go_wp2
          all_goals go_ret
          all_goals exact ⟨by rw [HF.out]; rfl, HW.out.drew⟩
      · obtain rfl : k = xs.length := by omega
        have HS : Hid (q = true) := Lib.hid (by
          rw [← HQ.out]
          refine decide_eq_true (List.ext_getElem? fun m => ?_)
          by_cases hm : m < xs.length
          · exact HR.out m hm
          · rw [List.getElem?_eq_none (by omega), List.getElem?_eq_none (by have := HL.out; omega)])
        go_wp2
        go_ret
        exact ⟨by rw [HS.out]; rfl, HW.out⟩
  · have l1 : ((xs.length : Int) != (ys.length : Int)) = true := by simp; omega
    have l2 : ((xs.length : Int) == (ys.length : Int)) = false := by simp; omega
    have HF : Hid (decide (xs = ys) = false) := Lib.hid (decide_eq_false fun e => hl (by rw [e]))
    clear hl
    go_enter Tryd.func164, Tryd.ntmps164
    go_wp2
    go_ret
    exact ⟨by rw [HF.out]; rfl, Below.refl _ _⟩
end Go.Proofs.YtadpgoiiopfnnaaDoor
namespace Go.Proofs.YtadpgoiiopfnnaaDoor
open Go Go.RowKit Go.Maps
/-- What a function tells of where a place stands. -/
def StTold (st : Int × Int → Option (Int × Int)) (d : Int × Int) (x y : Int) (ok : Bool) : Prop := (ok = true ∧ st d = some (x, y)) ∨ (ok = false ∧ st d = none)
/-- A function value that tells where places stand, in every world behind w. -/
def StandsOk (w : World) (u : Value) (st : Int × Int → Option (Int × Int)) : Prop := ∃ (f : Nat) (lb : Array Value), u = .func (.func f) #[] lb ∧ (∀ args W, (callFunc f args).run Tryd.prog W = .ok (.enter f args) W) ∧
  ∀ (i j : Nat) (W : World), i < 1000 → j < 1000 → Below w.heap.size w W → Calls Tryd.prog f (#[.agg #[.int .i64 (i : Int), .int .i64 (j : Int)]] ++ lb) W fun e W' => ∃ x y ok, e = .returned (.tuple #[.agg #[.int .i64 x, .int .i64 y], .bool ok]) ∧ StTold st ((i : Int), (j : Int)) x y ok ∧ Below W.heap.size W W'
theorem StandsOk.below {w w' : World} {u : Value} {st : Int × Int → Option (Int × Int)} (h : StandsOk w u st) (hb : Below w.heap.size w w') : StandsOk w' u st := by
  obtain ⟨f, lb, h1, h2, h3⟩ := h
  exact ⟨f, lb, h1, h2, fun i j W hi hj hW => h3 i j W hi hj (hb.trans (hW.mono hb.size))⟩
/-- A resolution of a graph lies in memory. -/
def ResIs (w : World) (R : Nat) (ss : List Sc) : Prop := ∃ (B T M1 M2 MR : Nat) (v : Value) (ds : List Nd) (l : List Ent), ResW w B R T M1 M2 MR v ds ss l
theorem ResIs.below {w w' : World} {R : Nat} {ss : List Sc} (h : ResIs w R ss) (hb : Below w.heap.size w w') : ResIs w' R ss := by
  obtain ⟨B, T, M1, M2, MR, v, ds, l, h⟩ := h
  exact ⟨B, T, M1, M2, MR, v, ds, l, h.below hb⟩
/-- A comparison lies in memory. -/
structure CompIs (w : World) (C R1 R2 : Nat) (u : Value) (ss tt : List Sc) (st : Int × Int → Option (Int × Int)) : Prop where
  row : Row w C 152 [.pointer (some ⟨R1, 0, none⟩), .pointer (some ⟨R2, 0, none⟩), u]
  res1 : ResIs w R1 ss
  res2 : ResIs w R2 tt
  stands : StandsOk w u st
theorem CompIs.below {w w' : World} {C R1 R2 : Nat} {u : Value} {ss tt : List Sc} {st : Int × Int → Option (Int × Int)} (h : CompIs w C R1 R2 u ss tt st) (hb : Below w.heap.size w w') : CompIs w' C R1 R2 u ss tt st :=
  ⟨h.row.below hb h.row.lt, h.res1.below hb, h.res2.below hb, h.stands.below hb⟩
/-- What stands of the first k of a list. -/
def stUp (st : Int × Int → Option (Int × Int)) (l : List (Int × Int)) (k : Nat) : List (Int × Int) := (l.take k).filterMap st
theorem stUp_length (st : Int × Int → Option (Int × Int)) (l : List (Int × Int)) (k : Nat) : (stUp st l k).length ≤ l.length := Nat.le_trans (List.length_filterMap_le _ _) (List.length_take_le' _ _)
theorem stUp_snoc {st : Int × Int → Option (Int × Int)} {l : List (Int × Int)} {k : Nat} {d p : Int × Int} (h : l[k]? = some d) (hs : st d = some p) : stUp st l (k + 1) = stUp st l k ++ [p] := by
  unfold stUp
  rw [List.take_add_one, h, List.filterMap_append]
  simp [hs]
theorem cell4 {w1 W : World} {p0 p1 p2 : Addr} {v0 v1 v2 : Value} (c0 : w1.cell? p0 = some v0) (c1 : w1.cell? p1 = some v1) (c2 : w1.cell? p2 = some v2) (hb : Below w1.heap.size w1 W) :
    W.cell? p0 = some v0 ∧ W.cell? p1 = some v1 ∧ W.cell? p2 = some v2 ∧ Below w1.heap.size w1 W := ⟨cell_grow hb c0, cell_grow hb c1, cell_grow hb c2, hb⟩
set_option maxRecDepth 100000 in
set_option maxHeartbeats 16000000 in
theorem same_any {ss tt : List Sc} (hv : Valid ss) (hv2 : Valid tt) {st : Int × Int → Option (Int × Int)} {w : World} {C R1 R2 : Nat} {u : Value} (hC : CompIs w C R1 R2 u ss tt st) {i j i2 j2 : Nat} {x x2 : It} (hq : (i, j, x) ∈ placed 0 ss) (hq2 : (i2, j2, x2) ∈ placed 0 tt) :
    Calls Tryd.prog 149 #[.pointer (some ⟨C, 0, none⟩), .agg #[.int .i64 (i : Int), .int .i64 (j : Int)], .agg #[.int .i64 (i2 : Int), .int .i64 (j2 : Int)]] w fun e w' => e = .returned (.bool (sameG tt st (meanIt ss (i, j, x)) ((i2 : Int), (j2 : Int)))) ∧ Below w.heap.size w w' := by
  have hb0 : Below w.heap.size w ((w.alloc (.cells #[.int .i64 (i : Int), .int .i64 (j : Int)] 34)).alloc (.cells #[.int .i64 (i2 : Int), .int .i64 (j2 : Int)] 34)).drew := (((Below.refl _ _).alloc (Nat.le_refl _) _).alloc (by simp) _).drew
  have HC := Lib.hid hC
  have HC0 := Lib.hid (hC.below hb0)
  have HB0 := Lib.hid hb0
  have RB := (Row.new w [.int .i64 (i : Int), .int .i64 (j : Int)] 34).alloc (.cells #[.int .i64 (i2 : Int), .int .i64 (j2 : Int)] 34)
  have RA := Row.new (w.alloc (.cells #[.int .i64 (i : Int), .int .i64 (j : Int)] 34)) [.int .i64 (i2 : Int), .int .i64 (j2 : Int)] 34
  rw [World.size_alloc] at RA
  have HRA := Lib.hid RA.drew
  have b0 := cell_drew (RB.cell (i := 0) (by rfl))
  have b1 := cell_drew (RB.cell (i := 1) (by rfl))
  have cc0 := HC0.out.row.cell (i := 0) (by rfl)
  obtain ⟨f, lb, rfl, hen, hst⟩ := hC.stands
  have HST := Lib.hid hst
  obtain ⟨Br, T, M1, M2, MR, v, ds, l, hR⟩ := HC0.out.res1
  have r1 := hR.box.cell (i := 1) (by rfl)
  obtain ⟨u1, -, hrun, hown⟩ := mean_at hv hR.mean hR.full hq
  obtain ⟨o1, c1, rfl, harg⟩ := argPlaces_of_owns hown
  have HA1 := Lib.hid harg
  have HP1 := Lib.hid (meanIt_isPlace hq)
  have HN1 := meanIt_length hv (i, j, x)
  have HV := Lib.hid (And.intro hv (And.intro hv2 hq2))
  obtain ⟨q, hsq⟩ : ∃ q, sameG tt st (meanIt ss (i, j, x)) ((i2 : Int), (j2 : Int)) = q := ⟨_, rfl⟩
  rw [hsq]
  have HSG : Hid (decide ((∀ d ∈ meanIt ss (i, j, x), (st d).isSome = true) ∧ (meanIt ss (i, j, x)).filterMap st = meanIt tt (i2, j2, x2)) = q) := Lib.hid (by rw [← hsq]; unfold sameG; rw [show meanAt tt ((i2 : Int), (j2 : Int)).1 ((i2 : Int), (j2 : Int)).2 = meanIt tt (i2, j2, x2) from meanAt_of hq2])
  have HSM := hv.small
  have HSMH := Lib.hid HSM
  clear hC hb0 RB RA hst hR hown harg hv hv2 hq hq2 hsq HSM
  generalize meanIt ss (i, j, x) = ml at *
  go_enter Tryd.func149, Tryd.ntmps149
  go_wp2
  go_region
  all_goals go_wp2
  generalize hW0 : ((w.alloc (.cells #[.int .i64 (i : Int), .int .i64 (j : Int)] 34)).alloc (.cells #[.int .i64 (i2 : Int), .int .i64 (j2 : Int)] 34)).drew = W0 at *
  go_loopw [7, 22] (fun v i wr => ∃ k : Nat, i = .int .i64 k ∧ k ≤ ml.length ∧ Hid (∀ m d, m < k → ml[m]? = some d → (st d).isSome = true) ∧ Hid (wr.ownsRow W0.heap.size 34 2 v (stUp st ml k).length (placeCells (stUp st ml k)) ∧ Below w.heap.size w wr ∧ Below W0.heap.size W0 wr)) (fun _ i _ => ml.length - (intOf i).toNat)
  case atStart => exact ⟨0, rfl, Nat.zero_le _, Lib.hid (fun m d hm => absurd hm (by omega)), Lib.hid ⟨World.ownsRow_nil _ _ _ _, HB0.out, Below.refl _ _⟩⟩
  case round =>
    obtain ⟨k, rfl, hk, HS, HW⟩ := hrel
    obtain ⟨ov, cv, rfl⟩ := ownsRow_slice HW.out.1
    by_cases hlt : k < ml.length
    · obtain ⟨d, hd⟩ : ∃ d, ml[k]? = some d := ⟨_, List.getElem?_eq_getElem hlt⟩
      obtain ⟨ci, cj, cs, cx, rfl, hcs, hcx⟩ := HP1.out d (List.mem_of_getElem? hd)
      have hci : ci < 1000 := by have h1 := (List.getElem?_eq_some_iff.1 hcs).1; have h2 := HSMH.out.len; omega
      have hcj : cj < 1000 := by have h1 := (List.getElem?_eq_some_iff.1 hcx).1; have h2 := HSMH.out.items cs (List.mem_of_getElem? hcs); omega
      obtain ⟨b2, f2, rfl, hb2, q2⟩ := (HA1.out.below HW.out.2.2).at (by omega)
      obtain ⟨x0, x1⟩ := q2 k _ hd
      dsimp only at x0 x1
      have hbq := (Below.refl wr.heap.size wr).alloc (Nat.le_refl _) (.cells #[.int .i64 (ci : Int), .int .i64 (cj : Int)] 34)
      have RQ := Row.new wr [.int .i64 (ci : Int), .int .i64 (cj : Int)] 34
      have k0 := RQ.cell (i := 0) (v := .int .i64 (ci : Int)) (by rfl)
      have k1 := RQ.cell (i := 1) (v := .int .i64 (cj : Int)) (by rfl)
      have XB := Lib.hid (HW.out.2.1.trans (hbq.mono HW.out.2.1.size))
      have XB0 := Lib.hid (HW.out.2.2.trans (hbq.mono HW.out.2.2.size))
      have XO := Lib.hid (ownsRow_below HW.out.1 hbq)
      have XS : Hid (wr.heap.size < (wr.alloc (.cells #[.int .i64 (ci : Int), .int .i64 (cj : Int)] 34)).heap.size) := Lib.hid (by simp)
      have cf := (HC.out.row.below XB.out HC.out.row.lt).cell (i := 2) (v := .func (.func f) #[] lb) (by rfl)
      have HD := Lib.hid hd
      have HIJ := Lib.hid (And.intro hci hcj)
      clear hbq RQ q2 hb2 hcs hcx hci hcj hd
      go_wp2
      generalize wr.alloc (.cells #[.int .i64 (ci : Int), .int .i64 (cj : Int)] 34) = wq at *
      go_cut [10, 11] (fun s10 s11 wx => ∃ (g : Nat) (x y : Int) (ok : Bool), s10 = .pointer (some ⟨g, 0, none⟩) ∧ s11 = .bool ok ∧ StTold st ((ci : Int), (cj : Int)) x y ok ∧ Row wx g 34 [.int .i64 x, .int .i64 y] ∧ wq.heap.size ≤ g ∧ Below wq.heap.size wq wx)
      case first =>
        go_region_held3 (fun w' => w'.cell? ⟨C, 2, none⟩ = some (.func (.func f) #[] lb) ∧ w'.cell? ⟨wr.heap.size, 0, none⟩ = some (.int .i64 (ci : Int)) ∧ w'.cell? ⟨wr.heap.size, 1, none⟩ = some (.int .i64 (cj : Int)) ∧ Below wq.heap.size wq w')
          (first
            | exact cell4 cf k0 k1 (Below.refl _ _)
            | exact cell4 cf k0 k1 ((Below.refl _ _).drew)
            | exact cell4 cf k0 k1 (((Below.refl _ _).drew).alloc (Nat.le_refl _) _)
            | exact cell4 cf k0 k1 (((Below.refl _ _).alloc (Nat.le_refl _) _).drew)
            | exact cell4 cf k0 k1 hBs
            | exact cell4 cf k0 k1 (hBs.alloc hBs.size _)
            | exact cell4 cf k0 k1 ((hBs.setCell (Nat.le_refl _) _).setCell (Nat.le_refl _) _)
            | exact cell4 cf k0 k1 ((hBs.setCell hBs.size _).setCell hBs.size _))
          (first
            | (go_at_fn f; refine (HST.out ci cj _ HIJ.out.1 HIJ.out.2 (XB.out.trans ((show Below wq.heap.size wq _ from (And.right (And.right (And.right (by assumption))))).mono XB.out.size))).mono ?_; rintro e ws ⟨x, y, ok, rfl, hst, hbs⟩; have hBs := Below.trans (show Below wq.heap.size wq _ from (And.right (And.right (And.right (by assumption))))) (hbs.mono (Below.size (And.right (And.right (And.right (by assumption)))))); (first | (have hz := Row.below (Row.new _ [.int .i64 0, .int .i64 0] 34) hbs (by simp); have z0 := hz.cell (i := 0) (by rfl); have z1 := hz.cell (i := 1) (by rfl); have zf0 := hz.frozen 0; have zf1 := hz.frozen 1) | (have hz := Row.below (Row.drew (Row.new _ [.int .i64 0, .int .i64 0] 34)) hbs (by simp); have z0 := hz.cell (i := 0) (by rfl); have z1 := hz.cell (i := 1) (by rfl); have zf0 := hz.frozen 0; have zf1 := hz.frozen 1) | skip)))
        all_goals go_wp2
        all_goals go_meet
        all_goals first
          | exact ⟨_, x, y, ok, rfl, rfl, hst, Row.new _ [.int .i64 x, .int .i64 y] 34, hBs.size, hBs.alloc hBs.size _⟩
          | exact ⟨_, x, y, ok, rfl, rfl, hst, (hz.set 0 _).set 1 _, Nat.le_refl _, (hBs.setCell (Nat.le_refl _) _).setCell (Nat.le_refl _) _⟩
      case rest =>
        obtain ⟨g, xx, yy, ok, rfl, rfl, hst, hrow, hg, hbc⟩ := hcut
        have YB := Lib.hid (XB.out.trans (hbc.mono XB.out.size))
        have YB0 := Lib.hid (XB0.out.trans (hbc.mono XB0.out.size))
        have YO := Lib.hid (ownsRow_below XO.out hbc)
        cases ok
        · have HF : Hid (q = false) := Lib.hid (by
            rw [← HSG.out]
            refine decide_eq_false fun h => ?_
            rcases hst with ⟨h1, _⟩ | ⟨_, h1⟩
            · cases h1
            · have h2 := h.1 _ (List.mem_of_getElem? HD.out)
              rw [h1] at h2
              cases h2)
          clear hst hrow hg hbc k0 k1 cf
          go_wp2
          go_ret
          exact ⟨by rw [HF.out]; rfl, YB.out⟩
        · have hss : st ((ci : Int), (cj : Int)) = some (xx, yy) := by
            rcases hst with ⟨_, h1⟩ | ⟨h1, _⟩
            · exact h1
            · cases h1
          have HSN : Hid (∀ m d, m < k + 1 → ml[m]? = some d → (st d).isSome = true) := Lib.hid (by
            intro m d hm hmd
            by_cases he : m = k
            · subst he
              rw [HD.out] at hmd
              obtain rfl := Option.some.inj hmd
              rw [hss]; rfl
            · exact HS.out m d (by omega) hmd)
          have HE : Hid (stUp st ml (k + 1) = stUp st ml k ++ [(xx, yy)]) := Lib.hid (stUp_snoc HD.out hss)
          have g0 := hrow.cell (i := 0) (v := .int .i64 xx) (by rfl)
          have g1 := hrow.cell (i := 1) (v := .int .i64 yy) (by rfl)
          have hpl := stUp_length st ml k
          obtain ⟨v', w', hrun', hown', hgrow, -⟩ := append_placeW YO.out xx yy (by omega) YB0.out.size 46
          have HP4 : Hid (w'.ownsRow W0.heap.size 34 2 v' (stUp st ml (k + 1)).length (placeCells (stUp st ml (k + 1))) ∧ Below w.heap.size w w' ∧ Below W0.heap.size W0 w') := Lib.hid
            ⟨by rw [HE.out, List.length_append, placeCells_snoc]; exact hown', YB.out.trans (below_append2 YO.out hgrow HB0.out.size YB.out.size), YB0.out.trans (below_append2 YO.out hgrow (Nat.le_refl W0.heap.size) YB0.out.size)⟩
          obtain ⟨ov', cv', rfl⟩ := ownsRow_slice hown'
          clear hst hrow hg hbc k0 k1 cf hss hown' hgrow
          go_wp2_with (at_builtin; refine wpList_append_run rfl _ _ 46 rfl hrun' ?_)
          go_roundw
          case rel => exact ⟨k + 1, by go_num, by omega, HSN, HP4⟩
          case measure => simp only [intOf]; omega
    · obtain rfl : k = ml.length := by omega
      have hRW := (HC0.out.below HW.out.2.2)
      obtain ⟨B3, T3, N1, N2, MS, v3, ds3, l3, hR3⟩ := hRW.res2.below ((Below.refl wr.heap.size wr).drew)
      obtain ⟨u3, hfix, hown3⟩ := mean_fix HV.out.2.1 hR3.mean hR3.full HV.out.2.2
      obtain ⟨o3, c3, rfl, harg3⟩ := argPlaces_of_owns hown3
      obtain ⟨o4, c4, he4, harg4⟩ := argPlaces_of_owns (ownsRow_below HW.out.1 ((Below.refl wr.heap.size wr).drew))
      simp only [Value.slice.injEq] at he4
      obtain ⟨rfl, -, rfl⟩ := he4
      have hfull : stUp st ml ml.length = ml.filterMap st := by unfold stUp; rw [List.take_length]
      have HQ2 : Hid (decide (stUp st ml ml.length = meanIt tt (i2, j2, x2)) = q) := Lib.hid (by
        rw [← HSG.out, hfull, decide_eq_decide]
        constructor
        · exact fun h => ⟨fun d hd => by
            obtain ⟨m, hm⟩ := List.mem_iff_getElem?.1 hd
            exact HS.out m d (List.getElem?_eq_some_iff.1 hm).1 hm, h⟩
        · exact fun h => h.2)
      have hn3 := meanIt_length HV.out.2.1 (i2, j2, x2)
      have hpl := stUp_length st ml ml.length
      have D := Lib.hid ((callsIn_wide (n := 5)).2 (equalPl_any (stUp st ml ml.length) (meanIt tt (i2, j2, x2)) ov o3 cv c3 wr.drew (by omega) (by omega) harg4 harg3))
      rw [HQ2.out] at D
      have m1 := cell_drew (hRW.row.cell (i := 1) (v := .pointer (some ⟨R2, 0, none⟩)) (by rfl))
      have m2 := hR3.box.cell (i := 1) (v := .map (some MS)) (by rfl)
      have a0 := cell_drew ((HRA.out.below HW.out.2.2 HRA.out.lt).cell (i := 0) (v := .int .i64 (i2 : Int)) (by rfl))
      have a1 := cell_drew ((HRA.out.below HW.out.2.2 HRA.out.lt).cell (i := 1) (v := .int .i64 (j2 : Int)) (by rfl))
      have HFX := Lib.hid hfix
      have HBW := Lib.hid HW.out.2.1
      have hms : MS < wr.heap.size := hR3.mean.lt
      clear hRW hR3 hfix hown3 harg3 harg4 hfull hpl hn3
      generalize meanIt tt (i2, j2, x2) = m3 at *
      go_wp2
      refine wp_region_kept (S := fun w' => w'.cell? ⟨C, 1, none⟩ = some (.pointer (some ⟨R2, 0, none⟩)) ∧ w'.cell? ⟨R2, 1, none⟩ = some (.map (some MS)) ∧ w'.cell? ⟨w.heap.size + 1, 0, none⟩ = some (.int .i64 (i2 : Int)) ∧ w'.cell? ⟨w.heap.size + 1, 1, none⟩ = some (.int .i64 (j2 : Int)) ∧ w'.heap[MS]? = wr.drew.heap[MS]?) 11 (by kernel_rfl) ?_
      have hS0 := And.intro m1 (And.intro m2 (And.intro a0 (And.intro a1 (rfl : wr.drew.heap[MS]? = wr.drew.heap[MS]?))))
      refine KeptAny.take (i := 0) (v := ?_) (by kernel_rfl) rfl rfl (by kernel_rfl) (by kernel_rfl) (by kernel_rfl) (fun _ _ _ h => h) (by rfl) (fun w' hw' => ?_) (fun _ => rfl) hS0 ?_
      rotate_left
      · (obtain ⟨g0, g1, g2, g3, g4⟩ := hw'; go_simp; try with_reducible rfl)
      refine KeptAny.take (i := 1) (v := ?_) (by kernel_rfl) rfl rfl (by kernel_rfl) (by kernel_rfl) (by kernel_rfl) (fun _ _ _ h => h) (by rfl) (fun w' hw' => ?_) (fun _ => rfl) hS0 ?_
      rotate_left
      · (obtain ⟨g0, g1, g2, g3, g4⟩ := hw'; go_simp; try with_reducible rfl)
      refine KeptAny.take (i := 2) (v := ?_) (by kernel_rfl) rfl rfl (by kernel_rfl) (by kernel_rfl) (by kernel_rfl) (fun _ _ _ h => h) (by rfl) (fun w' hw' => ?_) (fun _ => rfl) hS0 ?_
      rotate_left
      · (obtain ⟨g0, g1, g2, g3, g4⟩ := hw'; go_simp; try with_reducible rfl)
      refine KeptAny.take (i := 3) (v := ?_) (by kernel_rfl) rfl rfl (by kernel_rfl) (by kernel_rfl) (by kernel_rfl) (fun _ _ _ h => h) (by rfl) (fun w' hw' => ?_) (fun _ => rfl) hS0 ?_
      rotate_left
      · (obtain ⟨g0, g1, g2, g3, g4⟩ := hw'; go_simp; try with_reducible rfl)
      refine KeptAny.take (i := 4) (v := ?_) (by kernel_rfl) rfl rfl (by kernel_rfl) (by kernel_rfl) (by kernel_rfl) (fun _ _ _ h => h) (by rfl) (fun w' hw' => ?_) (fun _ => rfl) hS0 ?_
      rotate_left
      · (obtain ⟨g0, g1, g2, g3, g4⟩ := hw'; go_simp; try with_reducible rfl)
      refine KeptAny.take (i := 5) (v := ?_) (by kernel_rfl) rfl rfl (by kernel_rfl) (by kernel_rfl) (by kernel_rfl) (fun _ _ _ h => h) (by rfl) (fun w' hw' => ?_) (fun _ => rfl) hS0 ?_
      rotate_left
      · (obtain ⟨g0, g1, g2, g3, g4⟩ := hw'; go_simp; try with_reducible rfl)
      refine KeptAny.take (i := 6) (v := ?_) (by kernel_rfl) rfl rfl (by kernel_rfl) (by kernel_rfl) (by kernel_rfl) (fun _ _ _ h => h) (by rfl) (fun w' hw' => ?_) (fun _ => rfl) hS0 ?_
      rotate_left
      · (obtain ⟨g0, g1, g2, g3, g4⟩ := hw'; go_simp; try with_reducible rfl)
      refine KeptAny.take (i := 7) (v := ?_) (by kernel_rfl) rfl rfl (by kernel_rfl) (by kernel_rfl) (by kernel_rfl) (fun _ _ _ h => h) (by rfl) (fun w' hw' => ?_) (fun _ => rfl) hS0 ?_
      rotate_left
      · (obtain ⟨g0, g1, g2, g3, g4⟩ := hw'; go_simp; try with_reducible rfl)
      refine KeptAny.take (i := 8) (v := ?_) (by kernel_rfl) rfl rfl (by kernel_rfl) (by kernel_rfl) (by kernel_rfl) (fun _ _ _ h => h) (by rfl) (fun w' hw' => ?_) (fun _ => rfl) hS0 ?_
      rotate_left
      · (obtain ⟨g0, g1, g2, g3, g4⟩ := hw'; go_simp; try with_reducible rfl)
      refine KeptAny.take (i := 9) (v := ?_) (by kernel_rfl) rfl rfl (by kernel_rfl) (by kernel_rfl) (by kernel_rfl) (fun _ _ _ h => h) (by rfl) (fun w' hw' => ?_) (fun _ => rfl) hS0 ?_
      rotate_left
      · (obtain ⟨g0, g1, g2, g3, g4⟩ := hw'; have hl := HFX.out w' g4; go_simp; try with_reducible rfl)
      refine KeptAny.one (i := 10) (by kernel_rfl) rfl (by rfl) (fun K hK => ?_)
      go_simp
      refine ⟨trivial, ?_⟩
      refine D.out.mono ?_
      rintro e w5 ⟨rfl, hb5⟩
      have hS5 := And.intro (cell_grow hb5 hS0.1) (And.intro (cell_grow hb5 hS0.2.1) (And.intro (cell_grow hb5 hS0.2.2.1) (And.intro (cell_grow hb5 hS0.2.2.2.1) (hb5.block MS hms))))
      have HB5 := Lib.hid (HBW.out.drew.trans (hb5.mono HBW.out.size))
      refine hK.out _ _ hS5 (fun _ => ?_)
      clear hK hb5 hS0
      refine KeptAny.one (i := 11) (by kernel_rfl) rfl (by rfl) (fun K hK => ?_)
      go_simp
      refine hK.out _ _ hS5 (fun _ => ?_)
      clear hK hS5
      refine KeptAny.done (by kernel_rfl) ?_ _
      go_wp2
      go_ret
      exact ⟨rfl, HB5.out⟩
end Go.Proofs.YtadpgoiiopfnnaaDoor
namespace Go.Proofs.YtadpgoiiopfnnaaDoor
open Go Go.RowKit
theorem roundIn_deep {F : Fence} (hd : F.depth = none) {m m' : Nat} {P : Program} {l : Nat} {f : FuncId} {tmps : Array Value} {assign body : Code} {w : World} {R : Ending → World → Prop} (h : RoundIn F m P l f tmps assign body w R) : RoundIn F m' P l f tmps assign body w R :=
  ⟨h.1, fun c cs _ => h.2 c cs (fun d h => by rw [hd] at h; cases h)⟩
/-- What an iterator may ask of its rounds and what it does: it may lay blocks, and turn what holds no cells and was laid since its call began. -/
def SeqOwn {α : Type} (n : Nat) (P : Program) (g : Nat) (lb : Array Value) (encs : α → Array Value) (Kp : Nat → World → World → Prop) (S Sp : List α → Prop) (N : Nat) (w0 : World) : Prop :=
  ∀ (l : Nat) (J Jx : List α → World → Prop) (W : World), l < W.heap.size → Below w0.heap.size w0 W → OwnFrom W.heap.size J → OwnFrom W.heap.size Jx →
    (∀ m pre x W1, J pre W1 → pre.length < N → YieldAt Fence.wide m P l (encs x) W1 fun e W' => KeepsFrom W.heap.size W1 W' ∧
      ((e = .returned (.bool true) ∧ J (pre ++ [x]) W' ∧ Kp W.heap.size W1 W') ∨ (e = .returned (.bool false) ∧ Jx (pre ++ [x]) W'))) →
    J [] W →
    CallsIn Fence.wide n P g (#[.func (.yield l) #[] #[]] ++ lb) W fun e W' => (∃ v, e = .returned v) ∧ ((∃ xs, S xs ∧ J xs W') ∨ (∃ pre, Sp pre ∧ Jx pre W'))
variable {P : Program} {n : Nat}
theorem wpIn_rangeFunc_o {α : Type} {g : Operand} {ps : Array Tmp} {assign body : Code} {Q : Exit → Act → World → Prop} {a : Act} {w : World}
    {gf : Nat} {lb : Array Value} (hg : a.eval g = .func (.func gf) #[] lb) (eg : ∀ args w, (callFunc gf args).run P w = .ok (.enter gf args) w)
    {encs : α → Array Value} {Kp : Nat → World → World → Prop} {S Sp : List α → Prop} {N : Nat} {w0 : World} (hseq : SeqOwn (n - 1) P gf lb encs Kp S Sp N w0)
    (hKt : ∀ {A B C : World}, Kp (w.heap.size + 2) A B → Kp (w.heap.size + 2) B C → Kp (w.heap.size + 2) A C) (hKb : ∀ (W : World) (l : Nat) (o o' : Obj), w.heap.size ≤ l → W.heap[l]? = some o → o.isCells = false → o.isWalk = false → Kp (w.heap.size + 2) W (W.putObj l o'))
    (hb0 : Below w0.heap.size w0 w) (hps : ∀ x, (encs x).size = ps.size)
    (I : List α → World → Prop) (Ix : Code → List α → World → Prop) (hI : OwnFrom w.heap.size I) (hIx : ∀ c, OwnFrom w.heap.size (Ix c)) (h0 : I [] w) (Ax : α → Act → World → Prop) (hAx : ∀ x a', OwnFrom w.heap.size (fun (_ : Unit) W => Ax x a' W))
    (hassign : ∀ (l : Nat) (pre : List α) (x : α) (W : World) (K : Act → World → Prop), I pre W → (∀ a' W', KeepsFrom w.heap.size W W' → Kp (w.heap.size + 2) W W' → I pre W' → Ax x a' W' → K a' W') →
      assign.wpIn (Fence.wide.inRound l) (n - 1 - 1) P (Exit.then K (fun _ _ _ => False)) { tmps := (ps.zip (encs x)).foldl (fun t (p, v) => t.setIfInBounds p v) a.tmps, defers := [] } W)
    (hbody : ∀ (l : Nat) (pre : List α) (x : α) (a' : Act) (W : World), w.heap.size ≤ l → (∃ r, W.heap[l]? = some (.loop r)) → I pre W → Ax x a' W → pre.length < N → body.wpIn (Fence.wide.inRound l) (n - 1 - 1) P (ownPostG w.heap.size (Kp (w.heap.size + 2)) I Ix (pre ++ [x]) W) a' W)
    (hdone : ∀ (D : Nat) (xs : List α) (W : World), w.heap.size ≤ D → S xs → I xs W → W.heap[D]? = some (.deferred (some [])) → Q .normal { a with defers := { target := .collected D, args := #[] } :: a.defers } W)
    (hstop : ∀ (D : Nat) (c : Code) (pre : List α) (W : World), w.heap.size ≤ D → Sp pre → Ix c pre W → W.heap[D]? = some (.deferred (some [])) → c.wpIn Fence.wide n P Q { a with defers := { target := .collected D, args := #[] } :: a.defers } W) :
    (Code.rangeFunc g ps assign body).wpIn Fence.wide n P Q a w := by
  refine wpIn_rangeFunc fun fn hfn => ?_
  obtain ⟨B, hB⟩ : ∃ B, B = w.heap.size := ⟨_, rfl⟩
  obtain ⟨rc, hrc⟩ : ∃ rc : LoopState → Option Code → Loop, rc = fun st pe => { state := st, pending := pe, fn, tmps := a.tmps, params := ps, assign, body, defers := B } := ⟨_, rfl⟩
  obtain ⟨V, hV⟩ : ∃ V, V = (w.alloc (.deferred (some []))).alloc (.loop (rc .ready none)) := ⟨_, rfl⟩
  have hVs : V.heap.size = B + 2 := by rw [hV, hB]; simp
  have hVl : V.heap[B + 1]? = some (.loop (rc .ready none)) := by
    have h := World.alloc_heap_new (w.alloc (.deferred (some []))) (.loop (rc .ready none))
    rw [World.size_alloc, ← hB, ← hV] at h
    exact h
  have hVd : V.heap[B]? = some (.deferred (some [])) := by
    have h := World.alloc_heap_new w (.deferred (some []))
    rw [hV, hB]
    exact (Below.heap_alloc _ _ _ (by simp)).trans h
  have hVb : Below w.heap.size w V := by rw [hV]; exact ((Below.refl _ _).alloc (Nat.le_refl _) _).alloc (by simp) _
  have hVI : I [] V := by rw [hV]; exact hI.alloc _ (hI.alloc _ h0)
  rw [← hB] at hI hIx hAx hassign hbody hdone hstop hKb
  have hKt' : ∀ {A C E : World}, Kp (B + 2) A C → Kp (B + 2) C E → Kp (B + 2) A E := by rw [hB]; exact hKt
  refine ⟨B + 1, [{ target := .collected B, args := #[] }], V, { target := .fn (.func gf) lb, args := #[.func (.yield (B + 1)) #[] #[]] }, V, gf, #[.func (.yield (B + 1)) #[] #[]] ++ lb, V, ?_, ?_, fun _ _ => trivial, ?_, fun h => (by cases h), ?_⟩
  · rw [hV, hrc, hB]; exact run_enterLoop_outer _ _ _ _ _
  · simp only [resolve, hg]
    simp [go_sem]
  · simp [invoke, go_sem, eg]
  · refine (hseq (B + 1)
      (fun pre W => I pre W ∧ (W.heap[B + 1]? = some (.loop (rc .ready none)) ∧ W.heap[B]? = some (.deferred (some []))))
      (fun pre W => ∃ c, Ix c pre W ∧ (W.heap[B + 1]? = some (.loop (rc .done (some c))) ∧ W.heap[B]? = some (.deferred (some []))))
      V (by omega) (hb0.trans (hVb.mono hb0.size)) ?_ ?_ ?_ ⟨hVI, hVl, hVd⟩).mono ?_
    · rintro s A C row ⟨h1, h2, h3⟩ hg' hr
      have hne : ∀ k, k < B + 2 → some k ≠ row := fun k hk e => by have := (hr k e.symm).1; omega
      exact ⟨hI s A C row h1 hg' (fun r e => ⟨by have := (hr r e).1; omega, (hr r e).2⟩), (hg'.block _ (Array.getElem?_eq_some_iff.1 h2).1 (hne _ (by omega))).trans h2, (hg'.block _ (Array.getElem?_eq_some_iff.1 h3).1 (hne _ (by omega))).trans h3⟩
    · rintro s A C row ⟨c, h1, h2, h3⟩ hg' hr
      have hne : ∀ k, k < B + 2 → some k ≠ row := fun k hk e => by have := (hr k e.symm).1; omega
      exact ⟨c, hIx c s A C row h1 hg' (fun r e => ⟨by have := (hr r e).1; omega, (hr r e).2⟩), (hg'.block _ (Array.getElem?_eq_some_iff.1 h2).1 (hne _ (by omega))).trans h2, (hg'.block _ (Array.getElem?_eq_some_iff.1 h3).1 (hne _ (by omega))).trans h3⟩
    · rintro m pre x W ⟨hi, hl, hd⟩ hlen
      have hy := run_yield (P := P) (args := encs x) hl (by rw [hrc]; exact hps x)
      rw [hrc] at hy
      refine ⟨fn, _, assign, body, hy, roundIn_deep rfl (roundIn_of_wpIn (n := n - 1 - 1) hfn (hassign (B + 1) pre x W _ hi fun a' Wa hka hpa hia hxa => ?_))⟩
      have hla := hka.same _ _ (by omega) hl rfl
      have hda := hka.same _ _ (Nat.le_refl _) hd rfl
      have hlt := (Array.getElem?_eq_some_iff.1 hla).1
      refine ⟨_, run_beginRound hla (by rw [hrc]), ?_⟩
      have hl2 : (Wa.putObj (B + 1) (.loop { rc .ready none with state := .busy })).heap[B + 1]? = some (.loop { rc .ready none with state := .busy }) := World.putObj_heap_same hlt
      have hd2 : (Wa.putObj (B + 1) (.loop { rc .ready none with state := .busy })).heap[B]? = some (.deferred (some [])) := (World.putObj_heap_other (by omega)).trans hda
      have hp2 : Kp (B + 2) Wa (Wa.putObj (B + 1) (.loop { rc .ready none with state := .busy })) := hKb _ _ _ _ (by omega) hla rfl rfl
      refine wpIn_mono (hbody (B + 1) pre x a' _ (by omega) ⟨_, hl2⟩ (hI.putObj _ hia (by omega) hla rfl) ((hAx x a').putObj (s := ()) _ hxa (by omega) hla rfl) hlen) ?_
      have put : ∀ (W' : World) (o : Obj), KeepsFrom V.heap.size W' (W'.putObj (B + 1) o) := fun W' o => ⟨by simp, fun k o' hk h _ => (World.putObj_heap_other (by omega)).trans h⟩
      have keep : ∀ (W3 : World) (o : Obj), KeepsFrom B (Wa.putObj (B + 1) (.loop { rc .ready none with state := .busy })) W3 → KeepsFrom V.heap.size W (W3.putObj (B + 1) o) := fun W3 o h3 => by
        have h1 := put Wa (.loop { rc .ready none with state := .busy })
        have h2 := put W3 o
        exact ⟨Nat.le_trans hka.size (Nat.le_trans h1.size (Nat.le_trans h3.size h2.size)), fun k o' hk ho hc => h2.same k o' hk (h3.same k o' (by omega) (h1.same k o' hk (hka.same k o' (by omega) ho hc) hc) hc) hc⟩
      have fin : ∀ (jump : Option Code) (W3 : World), KeepsFrom B (Wa.putObj (B + 1) (.loop { rc .ready none with state := .busy })) W3 →
          (Instr.endRound (B + 1) jump).run P W3 = .ok (.bool jump.isNone) (W3.putObj (B + 1) (.loop (rc (if jump.isNone then .ready else .done) jump))) ∧
          W3.heap[B + 1]? = some (.loop { rc .ready none with state := .busy }) ∧
          (W3.putObj (B + 1) (.loop (rc (if jump.isNone then .ready else .done) jump))).heap[B + 1]? = some (.loop (rc (if jump.isNone then .ready else .done) jump)) ∧
          (W3.putObj (B + 1) (.loop (rc (if jump.isNone then .ready else .done) jump))).heap[B]? = some (.deferred (some [])) := fun jump W3 h3 => by
        have hl3 := h3.same _ _ (by omega) hl2 rfl
        have hr := run_endRound (P := P) jump hl3
        rw [hrc] at hr ⊢
        exact ⟨hr, by rw [hrc] at hl3; exact hl3, World.putObj_heap_same (Array.getElem?_eq_some_iff.1 hl3).1, (World.putObj_heap_other (by omega)).trans (h3.same _ _ (Nat.le_refl _) hd2 rfl)⟩
      rintro e a3 W3 hp
      cases e with
      | normal =>
        obtain ⟨hk3, hkp3, hi3⟩ := hp
        obtain ⟨hr, hl3, hl4, hd4⟩ := fin none W3 hk3
        exact ⟨_, _, hr, keep W3 _ hk3, .inl ⟨rfl, ⟨hI.putObj _ hi3 (by omega) hl3 rfl, hl4, hd4⟩, by rw [hVs]; exact hKt' hpa (hKt' (hKt' hp2 hkp3) (hKb _ _ _ _ (by omega) hl3 rfl rfl))⟩⟩
      | ret =>
        obtain ⟨hk3, hi3⟩ := hp
        obtain ⟨hr, hl3, hl4, hd4⟩ := fin (some .ret) W3 hk3
        exact ⟨_, _, hr, keep W3 _ hk3, .inr ⟨rfl, .ret, (hIx _).putObj _ hi3 (by omega) hl3 rfl, hl4, hd4⟩⟩
      | exit id =>
        obtain ⟨hk3, hi3⟩ := hp
        obtain ⟨hr, hl3, hl4, hd4⟩ := fin (some (.exit id)) W3 hk3
        exact ⟨_, _, hr, keep W3 _ hk3, .inr ⟨rfl, .exit id, (hIx _).putObj _ hi3 (by omega) hl3 rfl, hl4, hd4⟩⟩
      | goto t =>
        obtain ⟨hk3, hi3⟩ := hp
        obtain ⟨hr, hl3, hl4, hd4⟩ := fin (some (.goto t)) W3 hk3
        exact ⟨_, _, hr, keep W3 _ hk3, .inr ⟨rfl, .goto t, (hIx _).putObj _ hi3 (by omega) hl3 rfl, hl4, hd4⟩⟩
      | panic ch => exact hp.elim
      | outgrown => exact hp.elim
    · rintro e W2 ⟨⟨v, rfl⟩, (⟨xs, hS, hi, hl, hd⟩ | ⟨pre, hSp, c, hi, hl, hd⟩)⟩
      · exact ⟨none, _, by have h := run_endLoop (P := P) hl (by rw [hrc]; simp); rw [hrc] at h; exact h, hdone B xs _ (Nat.le_refl _) hS (hI.putObj _ hi (by omega) hl rfl) ((World.putObj_heap_other (by omega)).trans hd)⟩
      · exact ⟨some c, _, by have h := run_endLoop (P := P) hl (by rw [hrc]; simp); rw [hrc] at h; exact h, hstop B c pre _ (Nat.le_refl _) hSp ((hIx c).putObj _ hi (by omega) hl rfl) ((World.putObj_heap_other (by omega)).trans hd)⟩
end Go.Proofs.YtadpgoiiopfnnaaDoor
namespace Go.Proofs.YtadpgoiiopfnnaaDoor
open Go Go.RowKit Go.Maps
attribute [local go_sem] Oper.semAt_some
theorem changes_any (C : Nat) (w : World) :
    Calls Tryd.prog 118 #[.pointer (some ⟨C, 0, none⟩)] w fun e w' => e = .returned (.func (.func 148) #[] #[.pointer (some ⟨w.heap.size, 0, none⟩)]) ∧ w' = w.alloc (.cells #[.pointer (some ⟨C, 0, none⟩)] 150) := by
  go_enter Tryd.func118, Tryd.ntmps118
  go_wp2
  go_ret
  exact ⟨rfl, rfl⟩
/-- Those of some items that are there in the second graph and mean something else. -/
def chEl {ss : List Sc} (tt : List Sc) (st : Int × Int → Option (Int × Int)) (pre : List (El ss)) : List (El ss) := pre.filter fun x => chgB1 ss tt st x.1
theorem chEl_snoc {ss tt : List Sc} {st : Int × Int → Option (Int × Int)} (pre : List (El ss)) (x : El ss) : chEl tt st (pre ++ [x]) = chEl tt st pre ++ if chgB1 ss tt st x.1 = true then [x] else [] := by
  unfold chEl
  rw [List.filter_append]
  congr 1
  by_cases h : chgB1 ss tt st x.1 = true
  · rw [if_pos h]; simp [h]
  · rw [if_neg h]; simp [h]
theorem chEl_all {ss tt : List Sc} {st : Int × Int → Option (Int × Int)} {ys : List (El ss)} (h : ys.map Subtype.val = placed 0 ss) : (chEl tt st ys).map (fun x => plOf x.1) = chgG ss tt st := by
  have key : ∀ L : List (Nat × Nat × It), ys.map Subtype.val = L → (ys.filter fun x => chgB1 ss tt st x.1).map (fun x => plOf x.1) = (L.filter (chgB1 ss tt st)).map plOf := by
    intro L hL
    rw [← hL, List.filter_map, List.map_map]
    rfl
  exact key _ h
theorem ownOver {β : Type} {B : Nat} {I : β → World → Prop} (h : OwnFrom B I) {s : β} {A C : World} (hs : I s A) (hb : Below A.heap.size A C) : I s C :=
  h s A C none hs ⟨hb.os, hb.tape, hb.output, hb.size, fun k hk _ => hb.block k hk⟩ (fun r e => by cases e)
/-- What stands in the second graph is an item there. -/
def StandsIn (ss tt : List Sc) (st : Int × Int → Option (Int × Int)) : Prop := ∀ q ∈ placed 0 ss, ∀ p, st (plOf q) = some p → ∃ (i j : Nat) (x : It), p = ((i : Int), (j : Int)) ∧ (i, j, x) ∈ placed 0 tt
theorem cell5 {w1 W : World} {p0 p1 p2 p3 : Addr} {v0 v1 v2 v3 : Value} (c0 : w1.cell? p0 = some v0) (c1 : w1.cell? p1 = some v1) (c2 : w1.cell? p2 = some v2) (c3 : w1.cell? p3 = some v3) (hb : Below w1.heap.size w1 W) :
    W.cell? p0 = some v0 ∧ W.cell? p1 = some v1 ∧ W.cell? p2 = some v2 ∧ W.cell? p3 = some v3 := ⟨cell_grow hb c0, cell_grow hb c1, cell_grow hb c2, cell_grow hb c3⟩
theorem ownUp2 {β : Type} {B B' : Nat} {I : β → World → Prop} (h : OwnFrom B I) (hB : B ≤ B') : OwnFrom B' I := fun s A C row hs hg hr => h s A C row hs hg (fun r e => ⟨Nat.le_trans hB (hr r e).1, (hr r e).2⟩)
theorem keepsUp {B B' : Nat} {A C : World} (h : KeepsFrom B A C) (hB : B ≤ B') : KeepsFrom B' A C := ⟨h.size, fun k o hk ho hc => h.same k o (Nat.le_trans hB hk) ho hc⟩
theorem keepsJoin {B : Nat} {A C E : World} (h : KeepsFrom B A C) (k : KeepsFrom B C E) : KeepsFrom B A E := ⟨Nat.le_trans h.size k.size, fun i o hi ho hc => k.same i o hi (h.same i o hi ho hc) hc⟩
/-- What a round keeps: all that lay below n; from m on whatever holds no places. -/
def PlKeep (n m : Nat) (A C : World) : Prop := Below n A C ∧ ∀ (g : Nat) (t : TypeId) (vs : List Value), m ≤ g → t ≠ 34 → Row A g t vs → Row C g t vs
set_option maxRecDepth 100000 in
set_option maxHeartbeats 16000000 in
theorem changes_seq {ss tt : List Sc} (hv : Valid ss) (hv2 : Valid tt) {st : Int × Int → Option (Int × Int)} (hin : StandsIn ss tt st) {w0 : World} {Bn C R1 R2 : Nat} {u : Value} (hC : CompIs w0 C R1 R2 u ss tt st) (hBn : w0.cell? ⟨Bn, 0, none⟩ = some (.pointer (some ⟨C, 0, none⟩))) :
    SeqOwn 6 Tryd.prog 148 #[.pointer (some ⟨Bn, 0, none⟩)] (fun x : El ss => #[.agg #[.int .i64 (x.1.1 : Int), .int .i64 (x.1.2.1 : Int)]]) (PlKeep w0.heap.size) (fun xs => xs.map (fun x => plOf x.1) = chgG ss tt st) (fun _ => True) 1000000 w0 := by
  intro l J Jx W hl hW hJ hJx hY h0
  have HJ := Lib.hid hJ
  have HJX := Lib.hid hJx
  have HY := Lib.hid hY
  have HCW := Lib.hid (hC.below hW)
  have HC := Lib.hid hC
  have HW := Lib.hid hW
  have HV := Lib.hid (And.intro hv (And.intro hv2 hin))
  have HBN := Lib.hid hBn
  have HLT := Lib.hid (World.block_lt_of_cell? _ _ hBn)
  have hbY := (Below.refl W.heap.size W).alloc (Nat.le_refl _) (.cells #[.func (.yield l) #[] #[]] 197)
  have RY := Lib.hid (Row.new W [.func (.yield l) #[] #[]] 197)
  have HBY := Lib.hid hbY
  have bn := cell_grow (hW.trans (hbY.mono hW.size)) hBn
  obtain ⟨f, lb, rfl, hen, hst⟩ := hC.stands
  have HST := Lib.hid hst
  have cc0 := ((HCW.out.below hbY).row).cell (i := 0) (v := .pointer (some ⟨R1, 0, none⟩)) (by rfl)
  obtain ⟨Br, T, M1, M2, MR, v, ds, le, hR⟩ := hC.res1
  have HR := Lib.hid hR
  have rr0 := (hR.below (hW.trans (hbY.mono hW.size))).box.cell (i := 0) (v := .pointer (some ⟨T, 0, none⟩)) (by rfl)
  have H0 := Lib.hid h0
  clear hv hv2 hin hC hBn hJ hJx hY hbY hst hR h0
  refine callsIn_of_wp_marks Tryd.func148 rfl trivial ?_ rfl
  simp only [Tryd.ntmps148, List.size_toArray, List.length_cons, List.length_nil, Nat.reduceAdd, Nat.reduceSub, Array.replicate_succ, Array.replicate_zero, List.push_toArray, List.append_toArray, List.nil_append, List.cons_append]
  gi_wp2_with fail
  refine ⟨trivial, ?_⟩
  gi_at_call 124
  refine ((callsIn_wide (n := 5)).2 (all_any _ _)).mono ?_
  rintro e w2 ⟨rfl, rfl⟩
  gi_wp2
  have hb2 : Below W.heap.size W ((W.alloc (.cells #[.func (.yield l) #[] #[]] 197)).alloc (.cells #[.pointer (some ⟨T, 0, none⟩)] 94)) := ((Below.refl _ _).alloc (Nat.le_refl _) _).alloc (by simp) _
  have bN := Boxed.new (W.alloc (.cells #[.func (.yield l) #[] #[]] 197)) 94 (.pointer (some ⟨T, 0, none⟩))
  rw [World.size_alloc] at bN
  have RY2 := RY.out.alloc (.cells #[.pointer (some ⟨T, 0, none⟩)] 94)
  have HB2 := Lib.hid (HW.out.trans (hb2.mono HW.out.size))
  have hsm := HV.out.1.small
  have hJ2 := ownOver HJ.out H0.out hb2
  obtain ⟨W2, hW2⟩ : ∃ W2, W2 = (W.alloc (.cells #[.func (.yield l) #[] #[]] 197)).alloc (.cells #[.pointer (some ⟨T, 0, none⟩)] 94) := ⟨_, rfl⟩
  have hsW2 : W2.heap.size = W.heap.size + 2 := by rw [hW2]; simp
  have hszW := HW.out.size
  rw [← hW2] at hb2 bN RY2 HB2 hJ2 ⊢
  clear bn cc0 rr0 hW2
  refine wpIn_rangeFunc_ownH rfl (by omega) (gf := 153) (lb := #[.pointer (some ⟨W.heap.size + 1, 0, none⟩)]) rfl trivial (enters_of Tryd.func153 (by kernel_rfl) rfl)
    (all_stops 5 (by omega) (W.heap.size + 1) _ T M1 M2 v ds ss w0 _ HR.out.tree.tree HR.out.tree.hold (HR.out.tree.ne HV.out.1) hsm.len hsm.items (.of_below HB2.out) bN.cell) CellsKept.trans (fun X k o o' _ h1 h2 h3 => cellsKept_b (w := w0) X k o o' (by simp at *; omega) h1 h2 h3) (Below.refl _ _) (fun _ => rfl)
    (fun pre X => J (chEl tt st pre) X ∧ (Row X W.heap.size 197 [.func (.yield l) #[] #[]] ∧ Below w0.heap.size w0 X))
    (fun c pre X => c = .ret ∧ ∃ pr, Jx pr X)
    (OwnFrom.and (fun s A E row hs hg hr => HJ.out (chEl tt st s) A E row hs hg (fun r e => ⟨by have := (hr r e).1; omega, (hr r e).2⟩)) (OwnFrom.and (row_own _ _ _ fun _ => _) (ownFrom_below (Nat.le_refl _) (by omega))))
    (fun c s A E row hs hg hr => ⟨hs.1, by obtain ⟨pr, hp⟩ := hs.2; exact ⟨pr, HJX.out pr A E row hp hg (fun r e => ⟨by have := (hr r e).1; omega, (hr r e).2⟩)⟩⟩)
    ⟨hJ2, RY2, HB2.out⟩
    (fun x a' X => ∃ Bp, Row X Bp 34 [.int .i64 (x.1.1 : Int), .int .i64 (x.1.2.1 : Int)] ∧
      a' = { tmps := #[.func (.yield l) #[] #[], .pointer (some ⟨Bn, 0, none⟩), .pointer (some ⟨W.heap.size, 0, none⟩), .pointer (some ⟨Bp, 0, none⟩), undef, undef, .pointer (some ⟨C, 0, none⟩), .pointer (some ⟨C, 0, none⟩), .pointer (some ⟨C, 0, none⟩), .pointer (some ⟨R1, 0, none⟩), .pointer (some ⟨R1, 0, none⟩), .pointer (some ⟨R1, 0, none⟩), .pointer (some ⟨T, 0, none⟩), .func (.func 153) #[] #[.pointer (some ⟨W.heap.size + 1, 0, none⟩)], .agg #[.int .i64 (x.1.1 : Int), .int .i64 (x.1.2.1 : Int)], .agg #[.int .i64 x.1.2.2.kind, .string x.1.2.2.name, .int .i64 x.1.2.2.scope], undef, undef, undef, undef, undef, undef, undef, undef, undef, undef, undef, undef, undef, undef, undef, undef, undef, undef, undef, undef, undef, undef, undef], defers := [] })
    (fun x a' _ X Y row hs hg hr => by obtain ⟨Bp, h1, h3⟩ := hs; exact ⟨Bp, h1.kept_cells hg (fun r e => (hr r e).2), h3⟩)
    ?assign ?body ?done ?stop
  case assign =>
    rintro l' pre x X K hi hK
    dsimp only [elArgs]
    gi_wp2
    have ha : Below X.heap.size X (X.alloc (.cells #[.int .i64 (x.1.1 : Int), .int .i64 (x.1.2.1 : Int)] 34)) := (Below.refl _ _).alloc (Nat.le_refl _) _
    obtain ⟨hj, hr, hbw⟩ := hi
    refine hK _ _ ((KeepsOthers.alloc _ _).from _) (.of_below (ha.mono hbw.size)) ⟨ownOver HJ.out hj ha, hr.alloc _, hbw.trans (ha.mono hbw.size)⟩ ⟨X.heap.size, Row.new X [.int .i64 (x.1.1 : Int), .int .i64 (x.1.2.1 : Int)] 34, rfl⟩
  case body =>
    rintro l' pre x a' Wx hl' _ hi ⟨Bp, hp, rfl⟩ hlen
    obtain ⟨⟨i, j, it⟩, hmem⟩ := x
    dsimp only at hp ⊢
    have HI := Lib.hid hi
    have HP := Lib.hid hp
    have hlt := HV.out.1.small.lt hmem
    dsimp only at hlt
    have cB := hi.2.2.cell (p := ⟨Bn, 0, none⟩) HLT.out |>.trans HBN.out
    have cF := (HC.out.row.below hi.2.2 HC.out.row.lt).cell (i := 2) (v := .func (.func f) #[] lb) (by rfl)
    have p0 := hp.cell (i := 0) (v := .int .i64 (i : Int)) (by rfl)
    have p1 := hp.cell (i := 1) (v := .int .i64 (j : Int)) (by rfl)
    have HIJ : Hid (i < 1000 ∧ j < 1000) := Lib.hid hlt
    have hbz := (Below.refl Wx.heap.size Wx).drew
    have hS0 := cell5 cB cF p0 p1 hbz
    have HS0 := Lib.hid hS0
    have HL := Lib.hid hlen
    clear hi hp hlt cB cF p0 p1 hbz hlen
    gi_wp2
    refine wpIn_region_kept (F := Fence.wide) (S := fun w' => w'.cell? ⟨Bn, 0, none⟩ = some (.pointer (some ⟨C, 0, none⟩)) ∧ w'.cell? ⟨C, 2, none⟩ = some (.func (.func f) #[] lb) ∧ w'.cell? ⟨Bp, 0, none⟩ = some (.int .i64 (i : Int)) ∧ w'.cell? ⟨Bp, 1, none⟩ = some (.int .i64 (j : Int))) 1000 l' (by kernel_rfl) (by kernel_rfl) ?_
    refine KeptAny.take (i := 0) (v := ?_) (by kernel_rfl) rfl rfl (by kernel_rfl) (by kernel_rfl) (by kernel_rfl) (fun _ _ _ h => h) (by rfl) (fun w' hw' => ?_) (fun _ => rfl) hS0 ?_
    rotate_left
    · (obtain ⟨g0, g1, g2, g3⟩ := hw'; go_simp; try with_reducible rfl)
    refine KeptAny.take (i := 1) (v := ?_) (by kernel_rfl) rfl rfl (by kernel_rfl) (by kernel_rfl) (by kernel_rfl) (fun _ _ _ h => h) (by rfl) (fun w' hw' => ?_) (fun _ => rfl) hS0 ?_
    rotate_left
    · (obtain ⟨g0, g1, g2, g3⟩ := hw'; go_simp; try with_reducible rfl)
    refine KeptAny.take (i := 2) (v := ?_) (by kernel_rfl) rfl rfl (by kernel_rfl) (by kernel_rfl) (by kernel_rfl) (fun _ _ _ h => h) (by rfl) (fun w' hw' => ?_) (fun _ => rfl) hS0 ?_
    rotate_left
    · (obtain ⟨g0, g1, g2, g3⟩ := hw'; go_simp; try with_reducible rfl)
    refine KeptAny.take (i := 3) (v := ?_) (by kernel_rfl) rfl rfl (by kernel_rfl) (by kernel_rfl) (by kernel_rfl) (fun _ _ _ h => h) (by rfl) (fun w' hw' => ?_) (fun _ => rfl) hS0 ?_
    rotate_left
    · (obtain ⟨g0, g1, g2, g3⟩ := hw'; go_simp; try with_reducible rfl)
    refine KeptAny.take (i := 4) (v := ?_) (by kernel_rfl) rfl rfl (by kernel_rfl) (by kernel_rfl) (by kernel_rfl) (fun _ _ _ h => h) (by rfl) (fun w' hw' => ?_) (fun _ => rfl) hS0 ?_
    rotate_left
    · (obtain ⟨g0, g1, g2, g3⟩ := hw'; go_simp; try with_reducible rfl)
    clear hS0
    refine KeptAny.two (i := 5) (j := 9) (by kernel_rfl) ⟨_, rfl, by rfl, fun K hK => ?_⟩ ⟨_, rfl, by rfl, fun K hK => ?_⟩
    · go_simp
      refine ⟨trivial, ?_⟩
      refine ((callsIn_wide (n := 3)).2 (HST.out i j _ HIJ.out.1 HIJ.out.2 (HI.out.2.2.trans (((Below.refl Wx.heap.size Wx).drew).mono HI.out.2.2.size)))).mono ?_
      rintro e w4 ⟨xx, yy, ok, rfl, hto, hb4⟩
      have HTO := Lib.hid hto
      have hS4 := And.intro (cell_grow hb4 HS0.out.1) (And.intro (cell_grow hb4 HS0.out.2.1) (And.intro (cell_grow hb4 HS0.out.2.2.1) (cell_grow hb4 HS0.out.2.2.2)))
      have hb4' : Below Wx.heap.size Wx w4 := ((Below.refl Wx.heap.size Wx).drew).trans hb4
      have hb5 := (Below.refl w4.heap.size w4).alloc (Nat.le_refl _) (.cells #[.int .i64 0, .int .i64 0] 34)
      have hb6 := (Below.refl w4.heap.size w4).alloc (Nat.le_refl _) (.cells #[.int .i64 xx, .int .i64 yy] 34)
      have hS5 := cell5 hS4.1 hS4.2.1 hS4.2.2.1 hS4.2.2.2 hb5
      have hS6 := cell5 hS4.1 hS4.2.1 hS4.2.2.1 hS4.2.2.2 hb6
      have ZB := Lib.hid (hb4'.trans (hb6.mono hb4'.size))
      have RG := Lib.hid (Row.new w4 [.int .i64 xx, .int .i64 yy] 34)
      refine hK.out _ _ hS4 (fun _ => ?_)
      clear hK hto hb4 hb4' hb5 hb6
      refine KeptAny.take (i := 6) (v := ?_) (by kernel_rfl) rfl rfl (by kernel_rfl) (by kernel_rfl) (by kernel_rfl) (fun _ _ _ h => h) (by rfl) (fun w' hw' => ?_) (fun _ => rfl) hS4 ?_
      rotate_left
      · (obtain ⟨g0, g1, g2, g3⟩ := hw'; go_simp; try with_reducible rfl)
      refine KeptAny.take (i := 7) (v := ?_) (by kernel_rfl) rfl rfl (by kernel_rfl) (by kernel_rfl) (by kernel_rfl) (fun _ _ _ h => h) (by rfl) (fun w' hw' => ?_) (fun _ => rfl) hS4 ?_
      rotate_left
      · (obtain ⟨g0, g1, g2, g3⟩ := hw'; go_simp; try with_reducible rfl)
      refine KeptAny.take (i := 8) (v := ?_) (by kernel_rfl) rfl rfl (by kernel_rfl) (by kernel_rfl) (by kernel_rfl) (fun _ _ _ h => h) (by rfl) (fun w' hw' => ?_) (fun _ => rfl) hS4 ?_
      rotate_left
      · (obtain ⟨g0, g1, g2, g3⟩ := hw'; go_simp; try with_reducible rfl)
      refine KeptAny.one (i := 9) (by kernel_rfl) rfl (by rfl) (fun K hK => ?_)
      go_simp
      refine hK.out _ _ hS5 (fun _ => ?_)
      clear hK
      refine KeptAny.one (i := 10) (by kernel_rfl) rfl (by rfl) (fun K hK => ?_)
      go_simp
      refine hK.out _ _ hS6 (fun _ => ?_)
      clear hK
      refine KeptAny.one (i := 11) (by kernel_rfl) rfl (by rfl) (fun K hK => ?_)
      go_simp
      refine hK.out _ _ hS6 (fun _ => ?_)
      clear hK hS4 hS5 hS6
      refine KeptAny.done (by kernel_rfl) ?_ _
      generalize w4.alloc (.cells #[.int .i64 xx, .int .i64 yy] 34) = wz at *
      have p0 := (HP.out.below ZB.out HP.out.lt).cell (i := 0) (v := .int .i64 (i : Int)) (by rfl)
      have p1 := (HP.out.below ZB.out HP.out.lt).cell (i := 1) (v := .int .i64 (j : Int)) (by rfl)
      have r0 := RG.out.cell (i := 0) (v := .int .i64 xx) (by rfl)
      have r1 := RG.out.cell (i := 1) (v := .int .i64 yy) (by rfl)
      have cB := (HI.out.2.2.trans (ZB.out.mono HI.out.2.2.size)).cell (p := ⟨Bn, 0, none⟩) HLT.out |>.trans HBN.out
      have ZI := Lib.hid (And.intro (ownOver HJ.out HI.out.1 ZB.out) (And.intro (HI.out.2.1.below ZB.out HI.out.2.1.lt) (HI.out.2.2.trans (ZB.out.mono HI.out.2.2.size))))
      have y0 := ZI.out.2.1.cell (i := 0) (v := .func (.yield l) #[] #[]) (by rfl)
      have HSZ : Hid (w0.heap.size ≤ Wx.heap.size) := Lib.hid HI.out.2.2.size
      cases ok
      · have HF : Hid (chEl tt st (pre ++ [(⟨(i, j, it), hmem⟩ : El ss)]) = chEl tt st pre) := Lib.hid (by
          rw [chEl_snoc, if_neg, List.append_nil]
          have h1 : st (plOf (i, j, it)) = none := by
            rcases HTO.out with ⟨h, _⟩ | ⟨_, h⟩
            · cases h
            · exact h
          unfold chgB1
          dsimp only
          rw [h1]
          simp)
        gi_wp2_with fail
        refine ⟨trivial, ?_⟩
        gi_wp2_with fail
        refine ⟨fun _ h => (by cases h), ?_⟩
        gi_wp2
        exact ⟨(keepsOthers_of_below ZB.out).from _, .of_below (ZB.out.mono HSZ.out), by rw [HF.out]; exact ZI.out.1, ZI.out.2⟩
      · have hss : st (plOf (i, j, it)) = some (xx, yy) := by
          rcases HTO.out with ⟨_, h⟩ | ⟨h, _⟩
          · exact h
          · cases h
        obtain ⟨i2, j2, x2, he, hq2⟩ := HV.out.2.2 (i, j, it) hmem (xx, yy) hss
        simp only [Prod.mk.injEq] at he
        obtain ⟨rfl, rfl⟩ := he
        have CS := Lib.hid (CallsIn.inRound l' ((callsIn_wide (n := 3)).2 (same_any HV.out.1 HV.out.2.1 (HC.out.below ZI.out.2.2) hmem hq2)))
        have HQ : Hid (chgB1 ss tt st (i, j, it) = !sameG tt st (meanIt ss (i, j, it)) ((i2 : Int), (j2 : Int))) := Lib.hid (by unfold chgB1; rw [hss])
        generalize sameG tt st (meanIt ss (i, j, it)) ((i2 : Int), (j2 : Int)) = sg at CS HQ
        clear hq2 hss
        gi_wp2_with fail
        refine ⟨trivial, ?_⟩
        gi_at_call 149
        refine CS.out.mono ?_
        rintro e w5 ⟨rfl, hb5⟩
        have ZB5 := Lib.hid (ZB.out.trans (hb5.mono ZB.out.size))
        have ZI5 := Lib.hid (And.intro (ownOver HJ.out ZI.out.1 hb5) (And.intro (ZI.out.2.1.below hb5 ZI.out.2.1.lt) (ZI.out.2.2.trans (hb5.mono ZI.out.2.2.size))))
        have y0 := ZI5.out.2.1.cell (i := 0) (v := .func (.yield l) #[] #[]) (by rfl)
        have p0 := (HP.out.below ZB5.out HP.out.lt).cell (i := 0) (v := .int .i64 (i : Int)) (by rfl)
        have p1 := (HP.out.below ZB5.out HP.out.lt).cell (i := 1) (v := .int .i64 (j : Int)) (by rfl)
        clear hb5 r0 r1 cB
        cases sg
        · have HF : Hid (chEl tt st (pre ++ [(⟨(i, j, it), hmem⟩ : El ss)]) = chEl tt st pre ++ [⟨(i, j, it), hmem⟩]) := Lib.hid (by
            rw [chEl_snoc, if_pos]
            rw [HQ.out]; rfl)
          have hlen2 : (chEl tt st pre).length < 1000000 := by
            have h1 : (chEl tt st pre).length ≤ pre.length := List.length_filter_le _ _
            have h2 := placed_bound 0 ss 6 5 HV.out.1.count.2 HV.out.1.five
            have h3 := HL.out
            omega
          obtain ⟨fn, tmps, assign, body, hyy, hR⟩ := HY.out 3 (chEl tt st pre) ⟨(i, j, it), hmem⟩ w5 ZI5.out.1 hlen2
          dsimp only at hyy
          have HUP := Lib.hid (show W.heap.size ≤ W2.heap.size by omega)
          gi_wp2
          refine hR.mono ?_
          rintro e w6 ⟨hkf, ⟨rfl, hj6, hb6, hr6⟩ | ⟨rfl, hx6⟩⟩
          · have HK6 := Lib.hid (keepsJoin ((keepsOthers_of_below ZB5.out).from W2.heap.size) (keepsUp hkf HUP.out))
            have HB6 := Lib.hid (Below.trans (ZB5.out.mono HSZ.out) hb6)
            have HJ6 : Hid (J (chEl tt st (pre ++ [(⟨(i, j, it), hmem⟩ : El ss)])) w6 ∧ (Row w6 W.heap.size 197 [.func (.yield l) #[] #[]] ∧ Below w0.heap.size w0 w6)) := Lib.hid ⟨by rw [HF.out]; exact hj6, hr6 _ _ _ (Nat.le_refl _) (by decide) ZI5.out.2.1, ZI5.out.2.2.trans hb6⟩
            clear hkf hj6 hb6 hr6
            gi_wp2
            exact ⟨HK6.out, .of_below HB6.out, HJ6.out⟩
          · have HK6 := Lib.hid (keepsJoin ((keepsOthers_of_below ZB5.out).from W2.heap.size) (keepsUp hkf HUP.out))
            have HX6 := Lib.hid hx6
            clear hkf hx6
            gi_wp2
            exact ⟨HK6.out, rfl, _, HX6.out⟩
        · have HF : Hid (chEl tt st (pre ++ [(⟨(i, j, it), hmem⟩ : El ss)]) = chEl tt st pre) := Lib.hid (by
            rw [chEl_snoc, if_neg, List.append_nil]
            rw [HQ.out]; simp)
          gi_wp2_with fail
          refine ⟨fun _ h => (by cases h), ?_⟩
          gi_wp2
          exact ⟨(keepsOthers_of_below ZB5.out).from _, .of_below (ZB5.out.mono HSZ.out), by rw [HF.out]; exact ZI5.out.1, ZI5.out.2⟩
    · go_simp
      have hbz : Below Wx.heap.size Wx (Wx.drew.alloc (.cells #[.int .i64 0, .int .i64 0] 34)) := ((Below.refl Wx.heap.size Wx).drew).alloc (Nat.le_refl Wx.heap.size) _
      have hbz0 : Below Wx.drew.heap.size Wx.drew (Wx.drew.alloc (.cells #[.int .i64 0, .int .i64 0] 34)) := (Below.refl _ _).alloc (Nat.le_refl _) _
      have hSz := And.intro (cell_grow hbz0 HS0.out.1) (And.intro (cell_grow hbz0 HS0.out.2.1) (And.intro (cell_grow hbz0 HS0.out.2.2.1) (cell_grow hbz0 HS0.out.2.2.2)))
      have RZ : Row (Wx.drew.alloc (.cells #[.int .i64 0, .int .i64 0] 34)) Wx.heap.size 34 [.int .i64 0, .int .i64 0] := Row.new Wx.drew [.int .i64 0, .int .i64 0] 34
      refine hK.out _ _ hSz (fun _ => ?_)
      clear hK
      refine KeptAny.one (i := 5) (by kernel_rfl) rfl (by rfl) (fun K hK => ?_)
      go_simp
      refine ⟨trivial, ?_⟩
      refine ((callsIn_wide (n := 3)).2 (HST.out i j _ HIJ.out.1 HIJ.out.2 (HI.out.2.2.trans (hbz.mono HI.out.2.2.size)))).mono ?_
      rintro e w4 ⟨xx, yy, ok, rfl, hto, hb4⟩
      have HTO := Lib.hid hto
      have hS4 := And.intro (cell_grow hb4 hSz.1) (And.intro (cell_grow hb4 hSz.2.1) (And.intro (cell_grow hb4 hSz.2.2.1) (cell_grow hb4 hSz.2.2.2)))
      have RZ4 := RZ.below hb4 RZ.lt
      have hb4' : Below Wx.heap.size Wx w4 := hbz.trans (hb4.mono hbz.size)
      have z0 := RZ4.cell (i := 0) (v := .int .i64 0) (by rfl)
      have z1 := RZ4.cell (i := 1) (v := .int .i64 0) (by rfl)
      have zf0 := RZ4.frozen 0
      have zf1 := RZ4.frozen 1
      have l0 : Bn ≠ Wx.heap.size := Nat.ne_of_lt (World.block_lt_of_cell? _ _ HS0.out.1)
      have l1 : C ≠ Wx.heap.size := Nat.ne_of_lt (World.block_lt_of_cell? _ _ HS0.out.2.1)
      have l2 : Bp ≠ Wx.heap.size := Nat.ne_of_lt (World.block_lt_of_cell? _ _ HS0.out.2.2.1)
      have far2 : ∀ (m k : Nat), m ≠ Wx.heap.size → ((w4.setCell ⟨Wx.heap.size, 0, none⟩ (.int .i64 xx)).setCell ⟨Wx.heap.size, 1, none⟩ (.int .i64 yy)).cell? ⟨m, k, none⟩ = w4.cell? ⟨m, k, none⟩ := fun m k h => by
        simp only [World.cell?]
        rw [Below.heap_setCell _ _ _ _ h, Below.heap_setCell _ _ _ _ h]
      have hS6 := And.intro ((far2 Bn 0 l0).trans hS4.1) (And.intro ((far2 C 2 l1).trans hS4.2.1) (And.intro ((far2 Bp 0 l2).trans hS4.2.2.1) ((far2 Bp 1 l2).trans hS4.2.2.2)))
      have ZB := Lib.hid ((hb4'.setCell (p := ⟨Wx.heap.size, 0, none⟩) (Nat.le_refl _) (.int .i64 xx)).setCell (p := ⟨Wx.heap.size, 1, none⟩) (Nat.le_refl _) (.int .i64 yy))
      have RG := Lib.hid ((RZ4.set 0 (.int .i64 xx)).set 1 (.int .i64 yy))
      refine hK.out _ _ hS4 (fun _ => ?_)
      clear hK hto hb4 hb4' hbz hbz0 RZ hSz l0 l1 l2 far2
      refine KeptAny.take (i := 6) (v := ?_) (by kernel_rfl) rfl rfl (by kernel_rfl) (by kernel_rfl) (by kernel_rfl) (fun _ _ _ h => h) (by rfl) (fun w' hw' => ?_) (fun _ => rfl) hS4 ?_
      rotate_left
      · (obtain ⟨g0, g1, g2, g3⟩ := hw'; go_simp; try with_reducible rfl)
      refine KeptAny.take (i := 7) (v := ?_) (by kernel_rfl) rfl rfl (by kernel_rfl) (by kernel_rfl) (by kernel_rfl) (fun _ _ _ h => h) (by rfl) (fun w' hw' => ?_) (fun _ => rfl) hS4 ?_
      rotate_left
      · (obtain ⟨g0, g1, g2, g3⟩ := hw'; go_simp; try with_reducible rfl)
      refine KeptAny.take (i := 8) (v := ?_) (by kernel_rfl) rfl rfl (by kernel_rfl) (by kernel_rfl) (by kernel_rfl) (fun _ _ _ h => h) (by rfl) (fun w' hw' => ?_) (fun _ => rfl) hS4 ?_
      rotate_left
      · (obtain ⟨g0, g1, g2, g3⟩ := hw'; go_simp; try with_reducible rfl)
      refine KeptAny.one (i := 10) (by kernel_rfl) rfl (by rfl) (fun K hK => ?_)
      go_simp
      refine hK.out _ _ hS6 (fun _ => ?_)
      clear hK
      refine KeptAny.one (i := 11) (by kernel_rfl) rfl (by rfl) (fun K hK => ?_)
      go_simp
      refine hK.out _ _ hS6 (fun _ => ?_)
      clear hK hS4 hS6 z0 z1 zf0 zf1 RZ4
      refine KeptAny.done (by kernel_rfl) ?_ _
      generalize (w4.setCell ⟨Wx.heap.size, 0, none⟩ (.int .i64 xx)).setCell ⟨Wx.heap.size, 1, none⟩ (.int .i64 yy) = wz at *
      have p0 := (HP.out.below ZB.out HP.out.lt).cell (i := 0) (v := .int .i64 (i : Int)) (by rfl)
      have p1 := (HP.out.below ZB.out HP.out.lt).cell (i := 1) (v := .int .i64 (j : Int)) (by rfl)
      have r0 := RG.out.cell (i := 0) (v := .int .i64 xx) (by rfl)
      have r1 := RG.out.cell (i := 1) (v := .int .i64 yy) (by rfl)
      have cB := (HI.out.2.2.trans (ZB.out.mono HI.out.2.2.size)).cell (p := ⟨Bn, 0, none⟩) HLT.out |>.trans HBN.out
      have ZI := Lib.hid (And.intro (ownOver HJ.out HI.out.1 ZB.out) (And.intro (HI.out.2.1.below ZB.out HI.out.2.1.lt) (HI.out.2.2.trans (ZB.out.mono HI.out.2.2.size))))
      have y0 := ZI.out.2.1.cell (i := 0) (v := .func (.yield l) #[] #[]) (by rfl)
      have HSZ : Hid (w0.heap.size ≤ Wx.heap.size) := Lib.hid HI.out.2.2.size
      cases ok
      · have HF : Hid (chEl tt st (pre ++ [(⟨(i, j, it), hmem⟩ : El ss)]) = chEl tt st pre) := Lib.hid (by
          rw [chEl_snoc, if_neg, List.append_nil]
          have h1 : st (plOf (i, j, it)) = none := by
            rcases HTO.out with ⟨h, _⟩ | ⟨_, h⟩
            · cases h
            · exact h
          unfold chgB1
          dsimp only
          rw [h1]
          simp)
        gi_wp2_with fail
        refine ⟨trivial, ?_⟩
        gi_wp2_with fail
        refine ⟨fun _ h => (by cases h), ?_⟩
        gi_wp2
        exact ⟨(keepsOthers_of_below ZB.out).from _, .of_below (ZB.out.mono HSZ.out), by rw [HF.out]; exact ZI.out.1, ZI.out.2⟩
      · have hss : st (plOf (i, j, it)) = some (xx, yy) := by
          rcases HTO.out with ⟨_, h⟩ | ⟨h, _⟩
          · exact h
          · cases h
        obtain ⟨i2, j2, x2, he, hq2⟩ := HV.out.2.2 (i, j, it) hmem (xx, yy) hss
        simp only [Prod.mk.injEq] at he
        obtain ⟨rfl, rfl⟩ := he
        have CS := Lib.hid (CallsIn.inRound l' ((callsIn_wide (n := 3)).2 (same_any HV.out.1 HV.out.2.1 (HC.out.below ZI.out.2.2) hmem hq2)))
        have HQ : Hid (chgB1 ss tt st (i, j, it) = !sameG tt st (meanIt ss (i, j, it)) ((i2 : Int), (j2 : Int))) := Lib.hid (by unfold chgB1; rw [hss])
        generalize sameG tt st (meanIt ss (i, j, it)) ((i2 : Int), (j2 : Int)) = sg at CS HQ
        clear hq2 hss
        gi_wp2_with fail
        refine ⟨trivial, ?_⟩
        gi_at_call 149
        refine CS.out.mono ?_
        rintro e w5 ⟨rfl, hb5⟩
        have ZB5 := Lib.hid (ZB.out.trans (hb5.mono ZB.out.size))
        have ZI5 := Lib.hid (And.intro (ownOver HJ.out ZI.out.1 hb5) (And.intro (ZI.out.2.1.below hb5 ZI.out.2.1.lt) (ZI.out.2.2.trans (hb5.mono ZI.out.2.2.size))))
        have y0 := ZI5.out.2.1.cell (i := 0) (v := .func (.yield l) #[] #[]) (by rfl)
        have p0 := (HP.out.below ZB5.out HP.out.lt).cell (i := 0) (v := .int .i64 (i : Int)) (by rfl)
        have p1 := (HP.out.below ZB5.out HP.out.lt).cell (i := 1) (v := .int .i64 (j : Int)) (by rfl)
        clear hb5 r0 r1 cB
        cases sg
        · have HF : Hid (chEl tt st (pre ++ [(⟨(i, j, it), hmem⟩ : El ss)]) = chEl tt st pre ++ [⟨(i, j, it), hmem⟩]) := Lib.hid (by
            rw [chEl_snoc, if_pos]
            rw [HQ.out]; rfl)
          have hlen2 : (chEl tt st pre).length < 1000000 := by
            have h1 : (chEl tt st pre).length ≤ pre.length := List.length_filter_le _ _
            have h2 := placed_bound 0 ss 6 5 HV.out.1.count.2 HV.out.1.five
            have h3 := HL.out
            omega
          obtain ⟨fn, tmps, assign, body, hyy, hR⟩ := HY.out 3 (chEl tt st pre) ⟨(i, j, it), hmem⟩ w5 ZI5.out.1 hlen2
          dsimp only at hyy
          have HUP := Lib.hid (show W.heap.size ≤ W2.heap.size by omega)
          gi_wp2
          refine hR.mono ?_
          rintro e w6 ⟨hkf, ⟨rfl, hj6, hb6, hr6⟩ | ⟨rfl, hx6⟩⟩
          · have HK6 := Lib.hid (keepsJoin ((keepsOthers_of_below ZB5.out).from W2.heap.size) (keepsUp hkf HUP.out))
            have HB6 := Lib.hid (Below.trans (ZB5.out.mono HSZ.out) hb6)
            have HJ6 : Hid (J (chEl tt st (pre ++ [(⟨(i, j, it), hmem⟩ : El ss)])) w6 ∧ (Row w6 W.heap.size 197 [.func (.yield l) #[] #[]] ∧ Below w0.heap.size w0 w6)) := Lib.hid ⟨by rw [HF.out]; exact hj6, hr6 _ _ _ (Nat.le_refl _) (by decide) ZI5.out.2.1, ZI5.out.2.2.trans hb6⟩
            clear hkf hj6 hb6 hr6
            gi_wp2
            exact ⟨HK6.out, .of_below HB6.out, HJ6.out⟩
          · have HK6 := Lib.hid (keepsJoin ((keepsOthers_of_below ZB5.out).from W2.heap.size) (keepsUp hkf HUP.out))
            have HX6 := Lib.hid hx6
            clear hkf hx6
            gi_wp2
            exact ⟨HK6.out, rfl, _, HX6.out⟩
        · have HF : Hid (chEl tt st (pre ++ [(⟨(i, j, it), hmem⟩ : El ss)]) = chEl tt st pre) := Lib.hid (by
            rw [chEl_snoc, if_neg, List.append_nil]
            rw [HQ.out]; simp)
          gi_wp2_with fail
          refine ⟨fun _ h => (by cases h), ?_⟩
          gi_wp2
          exact ⟨(keepsOthers_of_below ZB5.out).from _, .of_below (ZB5.out.mono HSZ.out), by rw [HF.out]; exact ZI5.out.1, ZI5.out.2⟩
  case done =>
    rintro D xs X hD hS ⟨hj, hr, hbw⟩ hK
    have HS := Lib.hid (chEl_all (tt := tt) (st := st) hS)
    have hj2 := (HJ.out).putObj (s := chEl tt st xs) (.deferred none) hj (by omega) hK rfl
    clear hS
    gi_wp2
    refine ⟨by simp, .inl ⟨_, _, rfl, run_takeDeferred hK, ?_⟩⟩
    exact ⟨_, results_none rfl _ _ _, ⟨_, rfl⟩, .inl ⟨_, HS.out, hj2⟩⟩
  case stop =>
    rintro D c pre X hD _ ⟨rfl, pr, hx⟩ hK
    have hx2 := (HJX.out).putObj (s := pr) (.deferred none) hx (by omega) hK rfl
    gi_wp2
    refine ⟨by simp, .inl ⟨_, _, rfl, run_takeDeferred hK, ?_⟩⟩
    exact ⟨_, results_none rfl _ _ _, ⟨_, rfl⟩, .inr ⟨_, trivial, hx2⟩⟩
end Go.Proofs.YtadpgoiiopfnnaaDoor
namespace Go.Proofs.YtadpgoiiopfnnaaDoor
open Go Go.RowKit Go.Maps
attribute [local go_sem] Oper.semAt_some
def elPls {ss : List Sc} (pre : List (El ss)) : List (Int × Int) := pre.map fun x => plOf x.1
theorem elPls_snoc {ss : List Sc} (pre : List (El ss)) (x : El ss) : elPls (pre ++ [x]) = elPls pre ++ [plOf x.1] := by unfold elPls; rw [List.map_append]; rfl
set_option maxRecDepth 100000 in
set_option maxHeartbeats 8000000 in
theorem appendSeq_any {ss tt : List Sc} (hv : Valid ss) (hv2 : Valid tt) {st : Int × Int → Option (Int × Int)} (hin : StandsIn ss tt st) {w : World} {Bn C R1 R2 : Nat} {u : Value} (hC : CompIs w C R1 R2 u ss tt st) (hBn : w.cell? ⟨Bn, 0, none⟩ = some (.pointer (some ⟨C, 0, none⟩))) :
    Calls Tryd.prog 147 #[.slice none 0 0, .func (.func 148) #[] #[.pointer (some ⟨Bn, 0, none⟩)]] w fun e w' => ∃ v, e = .returned v ∧ w'.ownsRow w.heap.size 34 2 v (chgG ss tt st).length (placeCells (chgG ss tt st)) ∧ Below w.heap.size w w' := by
  have SQ := Lib.hid (changes_seq hv hv2 hin hC hBn)
  have HLEN : Hid ((chgG ss tt st).length ≤ 1000) := Lib.hid (by
    have h1 := chgG_length ss tt st
    have h2 := placed_bound 0 ss 6 5 hv.count.2 hv.five
    omega)
  clear hC hBn hin hv hv2
  refine (callsIn_wide (n := 7)).1 ?_
  refine callsIn_of_wp_marks Tryd.func147 rfl trivial ?_ rfl
  simp only [Tryd.ntmps147, List.size_toArray, List.length_cons, List.length_nil, Nat.reduceAdd, Nat.reduceSub, Array.replicate_succ, Array.replicate_zero, List.push_toArray, List.append_toArray, List.nil_append, List.cons_append]
  gi_wp2
  have hbA := (Below.refl w.heap.size w).alloc (Nat.le_refl _) (.cells #[.slice none 0 0] 46)
  have bL := Boxed.new w 46 (.slice none 0 0)
  obtain ⟨W1, hW1⟩ : ∃ W1, W1 = w.alloc (.cells #[.slice none 0 0] 46) := ⟨_, rfl⟩
  have hs1 : W1.heap.size = w.heap.size + 1 := by rw [hW1]; simp
  rw [← hW1] at hbA bL ⊢
  clear hW1
  refine wpIn_rangeFunc_o (gf := 148) (lb := #[.pointer (some ⟨Bn, 0, none⟩)]) rfl (enters_of Tryd.func148 (by kernel_rfl) rfl) SQ.out
    (fun h k => ⟨h.1.trans (k.1.mono (Nat.le_refl _)), fun g t vs hg ht hr => k.2 g t vs hg ht (h.2 g t vs hg ht hr)⟩)
    (fun X k o o' hk ho hc _ => ⟨⟨rfl, rfl, rfl, by simp, fun m hm => World.putObj_heap_other (by omega)⟩, fun g t vs hg ht hr => by
      have hne : g ≠ k := by
        rintro rfl
        unfold Row at hr
        rw [hr] at ho
        cases ho
        cases hc
      exact (World.putObj_heap_other hne).trans hr⟩)
    hbA (fun _ => rfl)
    (fun pre X => (∃ u, Boxed X w.heap.size 46 u ∧ X.ownsRow w.heap.size 34 2 u (elPls pre).length (placeCells (elPls pre)) ∧ True) ∧ Below w.heap.size w X)
    (fun _ _ _ => False)
    (OwnFrom.and (Own.from (holdsRow_own w.heap.size w.heap.size 46 34 2 (fun pre : List (El ss) => (elPls pre).length) (fun pre => placeCells (elPls pre)) (fun _ _ => True)) _) (ownFrom_below (Nat.le_refl _) (by omega)))
    (fun _ _ _ _ _ hs _ _ => hs)
    ⟨⟨_, bL, World.ownsRow_nil _ _ _ _, trivial⟩, hbA⟩
    (fun x a' X => ∃ Bp, Row X Bp 34 [.int .i64 (x.1.1 : Int), .int .i64 (x.1.2.1 : Int)] ∧
      a' = { tmps := #[.slice none 0 0, .func (.func 148) #[] #[.pointer (some ⟨Bn, 0, none⟩)], .pointer (some ⟨w.heap.size, 0, none⟩), undef, .slice none 0 0, .pointer (some ⟨Bp, 0, none⟩), .func (.func 148) #[] #[.pointer (some ⟨Bn, 0, none⟩)], .agg #[.int .i64 (x.1.1 : Int), .int .i64 (x.1.2.1 : Int)], undef, undef, undef, undef, undef], defers := [] })
    (fun x a' _ X Y row hs hg hr => by obtain ⟨Bp, h1, h3⟩ := hs; exact ⟨Bp, h1.kept_cells hg (fun r e => (hr r e).2), h3⟩)
    ?assign ?body ?done ?stop
  case assign =>
    rintro l' pre x X K hi hK
    gi_wp2
    have ha : Below X.heap.size X (X.alloc (.cells #[.int .i64 (x.1.1 : Int), .int .i64 (x.1.2.1 : Int)] 34)) := (Below.refl _ _).alloc (Nat.le_refl _) _
    obtain ⟨⟨u, hB, hrow, -⟩, hbw⟩ := hi
    refine hK _ _ ((KeepsOthers.alloc _ _).from _) ⟨ha.mono hbw.size, fun g t vs _ _ hr => hr.alloc _⟩ ⟨⟨u, hB.alloc _, hrow.alloc _, trivial⟩, hbw.trans (ha.mono hbw.size)⟩ ⟨X.heap.size, Row.new X [.int .i64 (x.1.1 : Int), .int .i64 (x.1.2.1 : Int)] 34, rfl⟩
  case body =>
    rintro l' pre x a' X hl' _ ⟨⟨u, hB, hrow, -⟩, hbw⟩ ⟨Bp, hp, rfl⟩ hlen
    obtain ⟨⟨i, j, it⟩, hmem⟩ := x
    dsimp only at hp ⊢
    have hlen' : (elPls pre).length < 1000000 := by unfold elPls; rw [List.length_map]; exact hlen
    have p0 := hp.cell (i := 0) (by rfl)
    have p1 := hp.cell (i := 1) (by rfl)
    have hlt := hB.lt
    have HE : Hid (elPls (pre ++ [(⟨(i, j, it), hmem⟩ : El ss)]) = elPls pre ++ [((i : Int), (j : Int))]) := Lib.hid (elPls_snoc pre _)
    obtain ⟨v', w3, hrun, hown', hgrow⟩ := append_place0 hrow (i : Int) (j : Int) hlen' hbw.size 46
    have hown2 := hown'
    obtain ⟨g', cap', rfl⟩ := ownsRow_succ hown'
    simp [go_sem] at hrun
    obtain ⟨hv1, hv2, hr2, hk2, hb2⟩ := hB.appended (by decide) hrow hbw.size (Nat.le_refl _) hown2 hgrow
    have HKP : Hid (∀ (g : Nat) (t : TypeId) (vs : List Value), W1.heap.size + 2 ≤ g → t ≠ 34 → Row X g t vs → Row (w3.setCell ⟨w.heap.size, 0, none⟩ (.slice (some ⟨g', 0, none⟩) ((elPls pre).length + 1) cap')) g t vs) := Lib.hid (fun g t vs hg ht hr =>
      (((hr.alloc (.cells #[.int .i64 (i : Int), .int .i64 (j : Int)] 34)).grown hgrow (ownsRow_ne2 hr ht hrow)).other (a := ⟨w.heap.size, 0, none⟩) (by show w.heap.size ≠ g; omega) _))
    have c0 := hB.cell
    have c0' := (hB.alloc (.cells #[.int .i64 (i : Int), .int .i64 (j : Int)] 34)).cell
    have c1 := hv1.cell
    have f1 := hv1.frozen
    have HP := Lib.hid (And.intro hv2 (And.intro hr2 (And.intro hk2 hb2)))
    have HBW := Lib.hid hbw
    clear hB hrow hbw hown' hown2 hgrow hv1 hv2 hr2 hk2 hb2 hp
    gi_wp2
    refine ⟨HP.out.2.2.1.from _, ⟨HP.out.2.2.2, HKP.out⟩, ⟨_, HP.out.1, ?_, trivial⟩, HBW.out.trans HP.out.2.2.2⟩
    rw [HE.out, List.length_append, placeCells_snoc]
    exact HP.out.2.1
  case done =>
    rintro D xs X hD hS ⟨⟨u, hB, hrow, -⟩, hbw⟩ hK
    have cB := hB.cell
    have HS2 : Hid (elPls xs = chgG ss tt st) := Lib.hid hS
    clear hS
    gi_wp2
    refine ⟨by simp, .inl ⟨_, _, rfl, run_takeDeferred hK, ?_⟩⟩
    have hrow2 := ownsRow_putObj hrow (.deferred none) hK rfl
    rw [HS2.out] at hrow2
    have hend : Below w.heap.size w (X.putObj D (.deferred none)) := hbw.trans ⟨rfl, rfl, rfl, by simp, fun m hm => World.putObj_heap_other (by omega)⟩
    exact ⟨_, results_tmp rfl _ _ _, u, rfl, hrow2, hend⟩
  case stop =>
    rintro D c pre X _ _ h _
    exact h.elim
set_option maxRecDepth 100000 in
theorem collect_any {ss tt : List Sc} (hv : Valid ss) (hv2 : Valid tt) {st : Int × Int → Option (Int × Int)} (hin : StandsIn ss tt st) {w : World} {Bn C R1 R2 : Nat} {u : Value} (hC : CompIs w C R1 R2 u ss tt st) (hBn : w.cell? ⟨Bn, 0, none⟩ = some (.pointer (some ⟨C, 0, none⟩))) :
    Calls Tryd.prog 117 #[.func (.func 148) #[] #[.pointer (some ⟨Bn, 0, none⟩)]] w fun e w' => ∃ v, e = .returned v ∧ w'.ownsRow w.heap.size 34 2 v (chgG ss tt st).length (placeCells (chgG ss tt st)) ∧ Below w.heap.size w w' := by
  have A := Lib.hid (appendSeq_any hv hv2 hin hC hBn)
  clear hC hBn hin hv hv2
  go_enter Tryd.func117, Tryd.ntmps117
  go_wp2_with fail
  refine A.out.mono ?_
  rintro e w1 ⟨v, rfl, hown, hb⟩
  have HO := Lib.hid (And.intro hown hb)
  clear hown hb
  go_wp2
  go_ret
  exact ⟨v, rfl, HO.out.1, HO.out.2⟩
/-- What changedBetween answers. -/
def BetGot (l : List (Int × Int)) (w : World) (e : Ending) (w' : World) : Prop := ∃ v, e = .returned (.tuple #[v, .bool true]) ∧ w'.ownsRow w.heap.size 34 2 v l.length (placeCells l) ∧ Below w.heap.size w w'
set_option maxRecDepth 100000 in
set_option maxHeartbeats 4000000 in
theorem between_any (ss tt : List Sc) (hv : Valid ss) (hv2 : Valid tt) (hF : Fair ss) (hF2 : Fair tt) (oa ob : Option Addr) (cap cbp : Nat) (u : Value) (st : Int × Int → Option (Int × Int)) (hin : StandsIn ss tt st) (w : World) (hc : HoldsScopes w oa ss) (hc2 : HoldsScopes w ob tt) (hE : TreeErrs w) (hst : StandsOk w u st) :
    Calls Tryd.prog 75 #[.agg #[.slice oa ss.length cap], .agg #[.slice ob tt.length cbp], u] w (BetGot (chgG ss tt st) w) := by
  have hb0 : Below w.heap.size w ((w.alloc (.cells #[.slice oa ss.length cap] 30)).alloc (.cells #[.slice ob tt.length cbp] 30)) := ((Below.refl _ _).alloc (Nat.le_refl _) _).alloc (by simp) _
  have R1 := (Row.new w [.slice oa ss.length cap] 30).alloc (.cells #[.slice ob tt.length cbp] 30)
  have R2 := Row.new (w.alloc (.cells #[.slice oa ss.length cap] 30)) [.slice ob tt.length cbp] 30
  rw [World.size_alloc] at R2
  have C1 := Lib.hid (resolutionOf_any ss hF oa cap _ (hc.below hb0 (Nat.le_refl _)) (hE.below hb0 hE.size))
  have HB0 := Lib.hid hb0
  have HR2 := Lib.hid R2
  have HALL := Lib.hid (And.intro hv (And.intro hv2 (And.intro hF2 (And.intro hin (And.intro hc2 (And.intro hE hst))))))
  have g1 := R1.cell (i := 0) (by rfl)
  obtain ⟨f, lb, rfl, -, -⟩ := hst
  clear hv hv2 hF hF2 hin hc hc2 hE hb0 R1 R2
  go_enter Tryd.func75, Tryd.ntmps75
  go_wp2_with fail
  refine C1.out.mono ?_
  rintro e w1 (⟨hn, -, -⟩ | ⟨-, RR, T, M1, M2, MR, v, ds, le, rfl, hb1, hR⟩)
  · exact absurd HALL.out.1 hn
  · have HB1 := Lib.hid (HB0.out.trans (hb1.mono HB0.out.size))
    have HRI : Hid (ResIs w1 RR ss) := Lib.hid ⟨_, _, _, _, _, _, _, _, hR⟩
    have g2 := (HR2.out.below hb1 HR2.out.lt).cell (i := 0) (by rfl)
    have C2 := Lib.hid (resolutionOf_any tt HALL.out.2.2.1 ob cbp w1 (HALL.out.2.2.2.2.1.below HB1.out (Nat.le_refl _)) (HALL.out.2.2.2.2.2.1.below HB1.out HALL.out.2.2.2.2.2.1.size))
    clear hb1 hR g1
    go_wp2_with fail
    refine C2.out.mono ?_
    rintro e w2 (⟨hn, -, -⟩ | ⟨-, RS, T2, N1, N2, MS, v2, ds2, le2, rfl, hb2, hR2⟩)
    · exact absurd HALL.out.2.1 hn
    · have HB2 := Lib.hid (HB1.out.trans (hb2.mono HB1.out.size))
      have hbC := (Below.refl w2.heap.size w2).alloc (Nat.le_refl _) (.cells #[.pointer (some ⟨RR, 0, none⟩), .pointer (some ⟨RS, 0, none⟩), .func (.func f) #[] lb] 152)
      have HCI : Hid (CompIs (w2.alloc (.cells #[.pointer (some ⟨RR, 0, none⟩), .pointer (some ⟨RS, 0, none⟩), .func (.func f) #[] lb] 152)) w2.heap.size RR RS (.func (.func f) #[] lb) ss tt st) := Lib.hid
        ⟨Row.new w2 [.pointer (some ⟨RR, 0, none⟩), .pointer (some ⟨RS, 0, none⟩), .func (.func f) #[] lb] 152, (HRI.out.below hb2).below hbC, ResIs.below ⟨_, _, _, _, _, _, _, _, hR2⟩ hbC, HALL.out.2.2.2.2.2.2.below (HB2.out.trans (hbC.mono HB2.out.size))⟩
      have HB3 := Lib.hid (HB2.out.trans (hbC.mono HB2.out.size))
      clear hb2 hR2 hbC g2
      go_wp2_with fail
      generalize w2.alloc (.cells #[.pointer (some ⟨RR, 0, none⟩), .pointer (some ⟨RS, 0, none⟩), .func (.func f) #[] lb] 152) = w3 at *
      refine (changes_any w2.heap.size w3).mono ?_
      rintro e w4 ⟨rfl, rfl⟩
      have hbN := (Below.refl w3.heap.size w3).alloc (Nat.le_refl _) (.cells #[.pointer (some ⟨w2.heap.size, 0, none⟩)] 150)
      have RN := Row.new w3 [.pointer (some ⟨w2.heap.size, 0, none⟩)] 150
      have K := Lib.hid (collect_any HALL.out.1 HALL.out.2.1 HALL.out.2.2.2.1 (HCI.out.below hbN) (RN.cell (i := 0) (by rfl)))
      have HB4 := Lib.hid (HB3.out.trans (hbN.mono HB3.out.size))
      clear hbN RN
      go_wp2_with fail
      refine K.out.mono ?_
      rintro e w5 ⟨v5, rfl, hown, hb5⟩
      have HO := Lib.hid (And.intro (hown.mono HB4.out.size) (HB4.out.trans (hb5.mono HB4.out.size)))
      clear hown hb5
      go_wp2
      go_ret2
      exact ⟨v5, rfl, HO.out.1, HO.out.2⟩
end Go.Proofs.YtadpgoiiopfnnaaDoor
namespace Go.Proofs.YtadpgoiiopfnnaaDoor
open Go Go.RowKit
theorem nameB_short {nm : ByteArray} (h : nameB nm = true) : nm.size ≤ 2 ^ 63 - 1 := by
  have h1 : nm.data.toList.length = nm.size := by rw [Array.length_toList]; rfl
  unfold nameB at h
  rcases hd : nm.data.toList with _ | ⟨b, _ | ⟨c, r⟩⟩
  · rw [hd] at h; cases h
  · rw [hd] at h1; simp only [List.length_cons, List.length_nil] at h1; omega
  · rw [hd] at h; cases h
theorem addOk.fair {ss : List Sc} (hF : Fair ss) {n kind : Int} {nm : ByteArray} (h : addOk ss n nm) (hk : kind = 1 ∨ kind = 3) : Fair (addAt ss n kind nm) := by
  obtain ⟨⟨hv, i, c, rfl, hci, hl⟩, hn⟩ := h
  unfold addAt
  rw [Int.toNat_natCast]
  exact Fair.add hF hci hl (nameB_short hn) (by rcases hk with rfl | rfl <;> (unfold Sg.I64; dsimp only; omega))
theorem stands_in_add {ss : List Sc} {n kind : Int} {nm : ByteArray} : StandsIn ss (addAt ss n kind nm) some := by
  rintro ⟨i, j, x⟩ hq p hp
  obtain rfl := Option.some.inj hp
  exact ⟨i, j, x, rfl, placed_add hq⟩
set_option maxRecDepth 100000 in
theorem adding1_any (a b : Int) (W : World) :
    Calls Tryd.prog 119 #[.agg #[.int .i64 a, .int .i64 b]] W fun e W' => e = .returned (.tuple #[.agg #[.int .i64 a, .int .i64 b], .bool true]) ∧ Below W.heap.size W W' := by
  have R1 := (Row.new W [.int .i64 a, .int .i64 b] 34).alloc (.cells #[.int .i64 0, .int .i64 0] 34)
  have R2 := Row.new (W.alloc (.cells #[.int .i64 a, .int .i64 b] 34)) [.int .i64 0, .int .i64 0] 34
  rw [World.size_alloc] at R2
  have p0 := R1.cell (i := 0) (v := .int .i64 a) (by rfl)
  have p1 := R1.cell (i := 1) (v := .int .i64 b) (by rfl)
  have m0 := R2.cell (i := 0) (v := .int .i64 0) (by rfl)
  have m1 := R2.cell (i := 1) (v := .int .i64 0) (by rfl)
  have f0 := R2.frozen 0
  have f1 := R2.frozen 1
  clear R1 R2
  go_enter Tryd.func119, Tryd.ntmps119
  go_wp2
  refine bodyPost_ret (v := .tuple #[.agg #[.int .i64 a, .int .i64 b], .bool true]) (by simp [results, Tryd.results119, go_sem]) rfl ⟨rfl, ((Below.refl _ _).alloc (Nat.le_refl _) _).alloc (by simp) _⟩
theorem stands_add (w : World) : StandsOk w (.func (.func 119) #[] #[]) some :=
  ⟨_, #[], rfl, enters_of Tryd.func119 (by kernel_rfl) rfl, fun i j W _ _ _ => (adding1_any (i : Int) (j : Int) W).mono fun e W' h => ⟨(i : Int), (j : Int), true, h.1, .inl ⟨rfl, rfl⟩, h.2⟩⟩
set_option maxRecDepth 100000 in
set_option maxHeartbeats 4000000 in
theorem changedByAdding_any (ss : List Sc) (hF : Fair ss) (oa : Option Addr) (cap : Nat) (n kind : Int) (hk : kind = 1 ∨ kind = 3) (nm : ByteArray) (w : World) (hc : HoldsScopes w oa ss) (hE : AddErrs w) :
    Calls Tryd.prog 79 #[.agg #[.slice oa ss.length cap], .int .i64 n, .int .i64 kind, .string nm] w (PlGot (addOk ss n nm) (chgA ss (addAt ss n kind nm)) w) := by
  have hb0 : Below w.heap.size w (w.alloc (.cells #[.slice oa ss.length cap] 30)) := (Below.refl _ _).alloc (Nat.le_refl _) _
  have R1 := Row.new w [.slice oa ss.length cap] 30
  have C := Lib.hid (adding_any ss hF oa cap n kind nm _ (hc.below hb0 (Nat.le_refl _)) (hE.at hb0))
  have HB := Lib.hid hb0
  have HR := Lib.hid R1
  have HF := Lib.hid hF
  have HK := Lib.hid hk
  have HC := Lib.hid hc
  have HE := Lib.hid hE
  have g1 := R1.cell (i := 0) (by rfl)
  clear hF hc hE hb0 R1 hk
  go_enter Tryd.func79, Tryd.ntmps79
  go_wp2_with fail
  refine C.out.mono ?_
  rintro e w1 (⟨hn, ⟨tp, p, rfl⟩, hb⟩ | ⟨i, c, v, hs, rfl, hv, hci, hl5, hnm, rfl, hO, hb⟩)
  · have HN : Hid (¬ addOk ss n nm) := Lib.hid hn
    have hbx := hb.trans ((((Below.refl w1.heap.size w1).alloc (Nat.le_refl _) (.cells #[.slice none 0 0] 30)).alloc (by simp) (.cells #[.int .i64 0, .int .i64 0] 34)).mono hb.size)
    have HB1 := Lib.hid (HB.out.trans (hbx.mono HB.out.size))
    clear hn hb hbx
    go_wp2
    go_ret2
    exact .inl ⟨HN.out, rfl, HB1.out⟩
  · have HOK : Hid (addOk ss (i : Int) nm) := Lib.hid ⟨⟨hv, i, c, rfl, hci, hl5⟩, hnm⟩
    obtain ⟨l, hl⟩ : ∃ l, addP ss i ⟨kind, nm, -1⟩ = l := ⟨_, rfl⟩
    rw [hl] at hO
    have HL : Hid (addAt ss (i : Int) kind nm = l) := Lib.hid (by unfold addAt; rw [Int.toNat_natCast, hl])
    obtain ⟨ov, cv, rfl, -⟩ := hO.holds
    obtain ⟨z, hz⟩ : ∃ z : Int, (c.items.length : Int) = z := ⟨_, rfl⟩
    rw [hz]
    have hbN := ((Below.refl w1.heap.size w1).alloc (Nat.le_refl _) (.cells #[.slice ov l.length cv] 30)).alloc (by simp) (.cells #[.int .i64 (i : Int), .int .i64 z] 34)
    have hbx := hb.trans (hbN.mono hb.size)
    have HB1 := Lib.hid (HB.out.trans (hbx.mono HB.out.size))
    have RA := (Row.new w1 [.slice ov l.length cv] 30).alloc (.cells #[.int .i64 (i : Int), .int .i64 z] 34)
    have a0 := RA.cell (i := 0) (v := .slice ov l.length cv) (by rfl)
    have gx := (HR.out.below hbx HR.out.lt).cell (i := 0) (v := .slice oa ss.length cap) (by rfl)
    have C2 := Lib.hid (between_any ss l HOK.out.1.1 (by rw [← HL.out]; exact HOK.out.valid HK.out) HF.out (by rw [← HL.out]; exact HOK.out.fair HF.out HK.out) oa ov cap cv (.func (.func 119) #[] #[]) some (by rw [← HL.out]; exact stands_in_add) _ (HC.out.below HB1.out (Nat.le_refl _)) (hO.below hbN).holdsAt (HE.out.at HB1.out).names.nodes.trees (stands_add _))
    clear hv hci hl5 hnm hz hO hbN hl hb hbx RA g1
    go_wp2_with fail
    refine C2.out.mono ?_
    rintro e w2 ⟨v5, rfl, hown, hb5⟩
    rw [chgG_add] at hown
    have HO := Lib.hid (And.intro (hown.mono HB1.out.size) (HB1.out.trans (hb5.mono HB1.out.size)))
    clear hown hb5
    go_wp2
    go_ret2
    exact .inr ⟨HOK.out, v5, rfl, by rw [HL.out]; exact HO.out.1, HO.out.2⟩
set_option maxRecDepth 100000 in
set_option maxHeartbeats 4000000 in
theorem implCapturedBy_any (ss : List Sc) (hF : Fair ss) (oa : Option Addr) (cap : Nat) (n : Int) (nm : ByteArray) (w : World) (hc : HoldsScopes w oa ss) (hE : AddErrs w) :
    Calls Tryd.prog 36 #[.agg #[.slice oa ss.length cap], .int .i64 n, .string nm] w (PlGot (addOk ss n nm) (chgA ss (addAt ss n 1 nm)) w) := by
  have hb0 : Below w.heap.size w (w.alloc (.cells #[.slice oa ss.length cap] 30)) := (Below.refl _ _).alloc (Nat.le_refl _) _
  have R1 := Row.new w [.slice oa ss.length cap] 30
  have C := Lib.hid (changedByAdding_any ss hF oa cap n 1 (by decide) nm _ (hc.below hb0 (Nat.le_refl _)) (hE.at hb0))
  have HB := Lib.hid hb0
  have g1 := R1.cell (i := 0) (by rfl)
  clear hF hc hE hb0 R1
  go_enter Tryd.func36, Tryd.ntmps36
  go_wp2_with fail
  refine C.out.mono ?_
  rintro e w1 (⟨hn, rfl, hb⟩ | ⟨hok, v, rfl, hown, hb⟩)
  · have HN := Lib.hid (And.intro hn (HB.out.trans (hb.mono HB.out.size)))
    clear hn hb
    go_wp2
    go_ret2
    exact .inl ⟨HN.out.1, rfl, HN.out.2⟩
  · have HN := Lib.hid (And.intro hok (And.intro (hown.mono HB.out.size) (HB.out.trans (hb.mono HB.out.size))))
    clear hok hown hb
    go_wp2
    go_ret2
    exact .inr ⟨HN.out.1, v, rfl, HN.out.2.1, HN.out.2.2⟩
set_option maxRecDepth 100000 in
set_option maxHeartbeats 4000000 in
theorem implImportChanges_any (ss : List Sc) (hF : Fair ss) (oa : Option Addr) (cap : Nat) (n : Int) (nm : ByteArray) (w : World) (hc : HoldsScopes w oa ss) (hE : AddErrs w) :
    Calls Tryd.prog 38 #[.agg #[.slice oa ss.length cap], .int .i64 n, .string nm] w (PlGot (addOk ss n nm) (chgA ss (addAt ss n 3 nm)) w) := by
  have hb0 : Below w.heap.size w (w.alloc (.cells #[.slice oa ss.length cap] 30)) := (Below.refl _ _).alloc (Nat.le_refl _) _
  have R1 := Row.new w [.slice oa ss.length cap] 30
  have C := Lib.hid (changedByAdding_any ss hF oa cap n 3 (by decide) nm _ (hc.below hb0 (Nat.le_refl _)) (hE.at hb0))
  have HB := Lib.hid hb0
  have g1 := R1.cell (i := 0) (by rfl)
  clear hF hc hE hb0 R1
  go_enter Tryd.func38, Tryd.ntmps38
  go_wp2_with fail
  refine C.out.mono ?_
  rintro e w1 (⟨hn, rfl, hb⟩ | ⟨hok, v, rfl, hown, hb⟩)
  · have HN := Lib.hid (And.intro hn (HB.out.trans (hb.mono HB.out.size)))
    clear hn hb
    go_wp2
    go_ret2
    exact .inl ⟨HN.out.1, rfl, HN.out.2⟩
  · have HN := Lib.hid (And.intro hok (And.intro (hown.mono HB.out.size) (HB.out.trans (hb.mono HB.out.size))))
    clear hok hown hb
    go_wp2
    go_ret2
    exact .inr ⟨HN.out.1, v, rfl, HN.out.2.1, HN.out.2.2⟩
/-- A truth that tells whether a list is there and empty. -/
def CanVal (ok : Prop) (l : List (Int × Int)) (b : Bool) : Prop := (¬ ok ∧ b = false) ∨ (ok ∧ b = decide (l = []))
theorem CanVal.same {ok : Prop} {l : List (Int × Int)} {b b' : Bool} (h : CanVal ok l b) (k : CanVal ok l b') : b = b' := by
  rcases h with ⟨h1, h2⟩ | ⟨h1, h2⟩ <;> rcases k with ⟨k1, k2⟩ | ⟨k1, k2⟩
  · rw [h2, k2]
  · exact absurd k1 h1
  · exact absurd h1 k1
  · rw [h2, k2]
theorem len_zero (l : List (Int × Int)) : ((l.length : Int) == 0) = decide (l = []) := by
  cases l with
  | nil => rfl
  | cons a r => simp; omega
set_option maxRecDepth 100000 in
set_option maxHeartbeats 4000000 in
theorem implCanAdd_any (ss : List Sc) (hF : Fair ss) (oa : Option Addr) (cap : Nat) (n : Int) (nm : ByteArray) (w : World) (hc : HoldsScopes w oa ss) (hE : AddErrs w) :
    Calls Tryd.prog 42 #[.agg #[.slice oa ss.length cap], .int .i64 n, .string nm] w fun e w' => ∃ b, e = .returned (.bool b) ∧ CanVal (addOk ss n nm) (chgA ss (addAt ss n 1 nm)) b ∧ Below w.heap.size w w' := by
  have hb0 : Below w.heap.size w (w.alloc (.cells #[.slice oa ss.length cap] 30)) := (Below.refl _ _).alloc (Nat.le_refl _) _
  have R1 := Row.new w [.slice oa ss.length cap] 30
  have C := Lib.hid (implCapturedBy_any ss hF oa cap n nm _ (hc.below hb0 (Nat.le_refl _)) (hE.at hb0))
  have HB := Lib.hid hb0
  have g1 := R1.cell (i := 0) (by rfl)
  clear hF hc hE hb0 R1
  go_enter Tryd.func42, Tryd.ntmps42
  go_wp2_with fail
  refine C.out.mono ?_
  rintro e w1 (⟨hn, rfl, hb⟩ | ⟨hok, v, rfl, hown, hb⟩)
  · have HN := Lib.hid (And.intro hn (HB.out.trans (hb.mono HB.out.size)))
    clear hn hb
    go_wp2
    go_ret
    exact ⟨false, rfl, .inl ⟨HN.out.1, rfl⟩, HN.out.2⟩
  · obtain ⟨ov, cv, rfl⟩ := ownsRow_slice hown
    obtain ⟨q, hq⟩ : ∃ q, ((((chgA ss (addAt ss n 1 nm)).length : Nat) : Int) == 0) = q := ⟨_, rfl⟩
    have HN := Lib.hid (And.intro hok (And.intro (hq.symm.trans (len_zero _)) (HB.out.trans (hb.mono HB.out.size))))
    clear hok hown hb
    cases q
    all_goals go_wp2
    all_goals go_ret
    all_goals exact ⟨_, rfl, .inr ⟨HN.out.1, HN.out.2.1⟩, HN.out.2.2⟩
end Go.Proofs.YtadpgoiiopfnnaaDoor
namespace Go.Proofs.YtadpgoiiopfnnaaDoor
open Go Go.RowKit
theorem sub_add {ss : List Sc} {n kind : Int} {nm : ByteArray} : ∀ q ∈ placed 0 ss, q ∈ placed 0 (addAt ss n kind nm) := by
  rintro ⟨i, j, x⟩ hq
  exact placed_add hq
set_option maxRecDepth 100000 in
set_option maxHeartbeats 4000000 in
theorem specCapturedBy_any (ss : List Sc) (hF : Fair ss) (oa : Option Addr) (cap : Nat) (n : Int) (nm : ByteArray) (w : World) (hc : HoldsScopes w oa ss) :
    Calls Tryd.prog 35 #[.agg #[.slice oa ss.length cap], .int .i64 n, .string nm] w (PlGot2 (addOk ss n nm) (chgA ss (addAt ss n 1 nm)) w) := by
  have hb0 : Below w.heap.size w (w.alloc (.cells #[.slice oa ss.length cap] 30)) := (Below.refl _ _).alloc (Nat.le_refl _) _
  have R1 := Row.new w [.slice oa ss.length cap] 30
  have C := Lib.hid (specAddDeclaration_any ss hF oa cap n nm _ (hc.below hb0 (Nat.le_refl _)))
  have HB := Lib.hid hb0
  have HR := Lib.hid R1
  have HF := Lib.hid hF
  have HC := Lib.hid hc
  have g1 := R1.cell (i := 0) (by rfl)
  clear hF hc hb0 R1
  go_enter Tryd.func35, Tryd.ntmps35
  go_wp2_with fail
  refine C.out.mono ?_
  rintro e w1 (⟨hn, v0, hs0, rfl, hO, hb⟩ | ⟨hok, v, hs, rfl, hO, hb⟩)
  · have HN := Lib.hid hn
    obtain ⟨ov0, cv0, rfl, -⟩ := hO.holds
    have hbx := hb.trans ((((Below.refl w1.heap.size w1).alloc (Nat.le_refl _) (.cells #[.slice ov0 ([] : List Sc).length cv0] 30)).alloc (by simp) (.cells #[.int .i64 0, .int .i64 0] 34)).mono hb.size)
    have HB1 := Lib.hid (HB.out.trans (hbx.mono HB.out.size))
    clear hn hb hbx hO
    go_wp2
    go_ret2
    exact .inl ⟨HN.out, _, rfl, by
      first | exact HB1.out | exact HB1.out.alloc HB1.out.size _⟩
  · have HOK := Lib.hid hok
    obtain ⟨ov, cv, rfl, -⟩ := hO.holds
    have hbN := (((Below.refl w1.heap.size w1).alloc (Nat.le_refl _) (.cells #[.slice ov (addAt ss n 1 nm).length cv] 30)).alloc (by simp) (.cells #[.int .i64 n, .int .i64 (endAt ss n)] 34))
    have hbx := hb.trans (hbN.mono hb.size)
    have HB1 := Lib.hid (HB.out.trans (hbx.mono HB.out.size))
    have RA := ((Row.new w1 [.slice ov (addAt ss n 1 nm).length cv] 30).alloc (.cells #[.int .i64 n, .int .i64 (endAt ss n)] 34))
    have a0 := RA.cell (i := 0) (v := .slice ov (addAt ss n 1 nm).length cv) (by rfl)
    have gx := (HR.out.below hbx HR.out.lt).cell (i := 0) (v := .slice oa ss.length cap) (by rfl)
    have C2 := Lib.hid (l7Changes_any ss (addAt ss n 1 nm) hok.1.1 (hok.valid (by decide)) HF.out.fits (hok.fair HF.out (by decide)).fits sub_add oa ov cap cv _ (HC.out.below HB1.out (Nat.le_refl _)) (hO.below hbN).holdsAt)
    clear hok hO hbN hb hbx RA g1
    go_wp2_with fail
    refine C2.out.mono ?_
    rintro e w2 ⟨v5, rfl, hown, hb5⟩
    have HO := Lib.hid (And.intro (hown.mono HB1.out.size) (HB1.out.trans (hb5.mono HB1.out.size)))
    clear hown hb5
    go_wp2
    go_ret2
    exact .inr ⟨HOK.out, v5, rfl, HO.out.1, HO.out.2⟩
set_option maxRecDepth 100000 in
set_option maxHeartbeats 4000000 in
theorem specImportChanges_any (ss : List Sc) (hF : Fair ss) (oa : Option Addr) (cap : Nat) (n : Int) (nm : ByteArray) (w : World) (hc : HoldsScopes w oa ss) :
    Calls Tryd.prog 37 #[.agg #[.slice oa ss.length cap], .int .i64 n, .string nm] w (PlGot2 (addOk ss n nm) (chgA ss (addAt ss n 3 nm)) w) := by
  have hb0 : Below w.heap.size w (w.alloc (.cells #[.slice oa ss.length cap] 30)) := (Below.refl _ _).alloc (Nat.le_refl _) _
  have R1 := Row.new w [.slice oa ss.length cap] 30
  have C := Lib.hid (specAddImport_any ss hF oa cap n nm _ (hc.below hb0 (Nat.le_refl _)))
  have HB := Lib.hid hb0
  have HR := Lib.hid R1
  have HF := Lib.hid hF
  have HC := Lib.hid hc
  have g1 := R1.cell (i := 0) (by rfl)
  clear hF hc hb0 R1
  go_enter Tryd.func37, Tryd.ntmps37
  go_wp2_with fail
  refine C.out.mono ?_
  rintro e w1 (⟨hn, v0, hs0, rfl, hO, hb⟩ | ⟨hok, v, hs, rfl, hO, hb⟩)
  · have HN := Lib.hid hn
    obtain ⟨ov0, cv0, rfl, -⟩ := hO.holds
    have hbx := hb.trans (((Below.refl w1.heap.size w1).alloc (Nat.le_refl _) (.cells #[.slice ov0 ([] : List Sc).length cv0] 30)).mono hb.size)
    have HB1 := Lib.hid (HB.out.trans (hbx.mono HB.out.size))
    clear hn hb hbx hO
    go_wp2
    go_ret2
    exact .inl ⟨HN.out, _, rfl, by
      first | exact HB1.out | exact HB1.out.alloc HB1.out.size _⟩
  · have HOK := Lib.hid hok
    obtain ⟨ov, cv, rfl, -⟩ := hO.holds
    have hbN := ((Below.refl w1.heap.size w1).alloc (Nat.le_refl _) (.cells #[.slice ov (addAt ss n 3 nm).length cv] 30))
    have hbx := hb.trans (hbN.mono hb.size)
    have HB1 := Lib.hid (HB.out.trans (hbx.mono HB.out.size))
    have RA := (Row.new w1 [.slice ov (addAt ss n 3 nm).length cv] 30)
    have a0 := RA.cell (i := 0) (v := .slice ov (addAt ss n 3 nm).length cv) (by rfl)
    have gx := (HR.out.below hbx HR.out.lt).cell (i := 0) (v := .slice oa ss.length cap) (by rfl)
    have C2 := Lib.hid (l7Changes_any ss (addAt ss n 3 nm) hok.1.1 (hok.valid (by decide)) HF.out.fits (hok.fair HF.out (by decide)).fits sub_add oa ov cap cv _ (HC.out.below HB1.out (Nat.le_refl _)) (hO.below hbN).holdsAt)
    clear hok hO hbN hb hbx RA g1
    go_wp2_with fail
    refine C2.out.mono ?_
    rintro e w2 ⟨v5, rfl, hown, hb5⟩
    have HO := Lib.hid (And.intro (hown.mono HB1.out.size) (HB1.out.trans (hb5.mono HB1.out.size)))
    clear hown hb5
    go_wp2
    go_ret2
    exact .inr ⟨HOK.out, v5, rfl, HO.out.1, HO.out.2⟩
set_option maxRecDepth 100000 in
set_option maxHeartbeats 4000000 in
theorem specCanAdd_any (ss : List Sc) (hF : Fair ss) (oa : Option Addr) (cap : Nat) (n : Int) (nm : ByteArray) (w : World) (hc : HoldsScopes w oa ss) :
    Calls Tryd.prog 41 #[.agg #[.slice oa ss.length cap], .int .i64 n, .string nm] w fun e w' => ∃ b, e = .returned (.bool b) ∧ CanVal (addOk ss n nm) (chgA ss (addAt ss n 1 nm)) b ∧ Below w.heap.size w w' := by
  have hb0 : Below w.heap.size w (w.alloc (.cells #[.slice oa ss.length cap] 30)) := (Below.refl _ _).alloc (Nat.le_refl _) _
  have R1 := Row.new w [.slice oa ss.length cap] 30
  have C := Lib.hid (specCapturedBy_any ss hF oa cap n nm _ (hc.below hb0 (Nat.le_refl _)))
  have HB := Lib.hid hb0
  have g1 := R1.cell (i := 0) (by rfl)
  clear hF hc hb0 R1
  go_enter Tryd.func41, Tryd.ntmps41
  go_wp2_with fail
  refine C.out.mono ?_
  rintro e w1 (⟨hn, g, rfl, hb⟩ | ⟨hok, v, rfl, hown, hb⟩)
  · have HN := Lib.hid (And.intro hn (HB.out.trans (hb.mono HB.out.size)))
    clear hn hb
    go_wp2
    go_ret
    exact ⟨false, rfl, .inl ⟨HN.out.1, rfl⟩, HN.out.2⟩
  · obtain ⟨ov, cv, rfl⟩ := ownsRow_slice hown
    obtain ⟨q, hq⟩ : ∃ q, ((((chgA ss (addAt ss n 1 nm)).length : Nat) : Int) == 0) = q := ⟨_, rfl⟩
    have HN := Lib.hid (And.intro hok (And.intro (hq.symm.trans (len_zero _)) (HB.out.trans (hb.mono HB.out.size))))
    clear hok hown hb
    cases q
    all_goals go_wp2
    all_goals go_ret
    all_goals exact ⟨_, rfl, .inr ⟨HN.out.1, HN.out.2.1⟩, HN.out.2.2⟩
end Go.Proofs.YtadpgoiiopfnnaaDoor
