/-
  The walk of the given l7Changes. Conditions: both graphs are valid and lie in memory; whatever stands in the first one stands in the second one at the same place.
-/
import Derived.Test.YtgbbhiihhcdpbaaDoorWListS
import Derived.Test.YtgbbhiihhcdpbaaDoorJC
namespace Go.Proofs.YtgbbhiihhcdpbaaDoor
open Go Go.RowKit
/-- Whether an item means something else in another graph, where it stands at the same place. -/
def chgAB (ss tt : List Sc) (q : Nat × Nat × It) : Bool := !decide (meanIt ss q = meanAt tt (q.1 : Int) (q.2.1 : Int))
theorem chgA_eq (ss tt : List Sc) : chgA ss tt = filtL (chgAB ss tt) (placed 0 ss) := rfl
set_option maxRecDepth 100000 in
set_option maxHeartbeats 8000000 in
theorem l7Changes_any (ss tt : List Sc) (hv : Valid ss) (hv2 : Valid tt) (hf : FitsScopes ss) (hf2 : FitsScopes tt) (hsub : ∀ i j x, (i, j, x) ∈ placed 0 ss → ∃ y, (i, j, y) ∈ placed 0 tt) (oa ob : Option Addr) (cap cbp : Nat) (w : World) (hc : HoldsScopes w oa ss) (hc2 : HoldsScopes w ob tt) :
    Calls Tryd.prog 74 #[.agg #[.slice oa ss.length cap], .agg #[.slice ob tt.length cbp]] w (PlsGot (chgA ss tt) w) := by
  have hb0 : Below w.heap.size w (((w.alloc (.cells #[.slice oa ss.length cap] 30)).alloc (.cells #[.slice ob tt.length cbp] 30)).alloc (.cells #[] 37)) := (((Below.refl _ _).alloc (Nat.le_refl _) _).alloc (by simp) _).alloc (by simp; omega) _
  have RG := Lib.hid (((Row.new w [.slice oa ss.length cap] 30).alloc (.cells #[.slice ob tt.length cbp] 30)).alloc (.cells #[] 37))
  have RH0 := (Row.new (w.alloc (.cells #[.slice oa ss.length cap] 30)) [.slice ob tt.length cbp] 30).alloc (.cells #[] 37)
  rw [World.size_alloc] at RH0
  have RH := Lib.hid RH0
  have hown0 : (((w.alloc (.cells #[.slice oa ss.length cap] 30)).alloc (.cells #[.slice ob tt.length cbp] 30)).alloc (.cells #[] 37)).ownsRow w.heap.size 37 2 (.slice (some ⟨w.heap.size + 1 + 1, 0, none⟩) 0 0) 0 [] := by
    have h0 := World.ownsRow_made (base := w.heap.size) (e := 37) (size := 2) ((w.alloc (.cells #[.slice oa ss.length cap] 30)).alloc (.cells #[.slice ob tt.length cbp] 30)) #[] 0 (by simp; omega) (by unfold maxLen; omega) rfl
    rw [World.size_alloc, World.size_alloc] at h0
    exact h0
  have h30 := placed_bound 0 ss 6 5 hv.count.2 hv.five
  have C3 := Lib.hid (l4Items_any ss (by have := hv.count.2; omega) (fun s hs => by have := hv.five s hs; omega) (by omega) oa cap _ (hc.below hb0 (Nat.le_refl _)))
  have HO0 := Lib.hid hown0
  have HB0 := Lib.hid hb0
  have HC := Lib.hid (And.intro hc hc2)
  have HF := Lib.hid (And.intro hf hf2)
  have HV := Lib.hid (And.intro hv (And.intro hv2 hsub))
  have g0 := RG.out.cell (i := 0) (by rfl)
  have HS1 : Hid (w.heap.size + 1 + 1 < (((w.alloc (.cells #[.slice oa ss.length cap] 30)).alloc (.cells #[.slice ob tt.length cbp] 30)).alloc (.cells #[] 37)).heap.size) := Lib.hid (by simp)
  clear hf hf2 hc hc2 hb0 hown0 RH0 hv hv2 hsub
  go_enter Tryd.func74, Tryd.ntmps74
  go_wp2_with fail
  generalize (((w.alloc (.cells #[.slice oa ss.length cap] 30)).alloc (.cells #[.slice ob tt.length cbp] 30)).alloc (.cells #[] 37)) = w2 at *
  refine C3.out.mono ?_
  rintro e w3 ⟨tl, rfl, htl, hb3⟩
  have hfar : tl = .slice none 0 0 ∨ tl.ownBlock ≠ (Value.slice (some ⟨w.heap.size + 1 + 1, 0, none⟩) 0 0).ownBlock := by
    rcases htl.2 with h1 | ⟨g, cp, cur, rfl, hgB, _⟩
    · exact .inl h1.1
    · refine .inr fun e => ?_
      simp only [Value.ownBlock, Option.some.injEq] at e
      have := HS1.out
      omega
  have HI3 : Hid (ItemsAt w w3 oa cap ss.length w2.heap.size (.slice (some ⟨w.heap.size + 1 + 1, 0, none⟩) 0 0) tl [] (plsAll (placed 0 ss)) ∧ Row w3 (w.heap.size + 1) 30 [.slice ob tt.length cbp]) := Lib.hid ⟨⟨RG.out.below hb3 RG.out.lt, ownsRow_below HO0.out hb3, htl, hfar, HB0.out.trans (hb3.mono HB0.out.size)⟩, RH.out.below hb3 RH.out.lt⟩
  obtain ⟨ot, ct, rfl, hat⟩ := argPlaces_of_owns htl
  have HLN : Hid ((plsAll (placed 0 ss)).length = (placed 0 ss).length) := Lib.hid (plsAll_length _)
  have hln : (plsAll (placed 0 ss)).length ≤ 30 := by rw [plsAll_length]; exact h30
  clear hb3 htl hat g0 hfar
  go_wp2
  go_loopw [5, 12] (fun v i wr => ∃ k : Nat, i = .int .i64 k ∧ k ≤ (plsAll (placed 0 ss)).length ∧ Hid (ItemsAt w wr oa cap ss.length w2.heap.size v (.slice ot (plsAll (placed 0 ss)).length ct) (filtL (chgAB ss tt) ((placed 0 ss).take k)) (plsAll (placed 0 ss)) ∧ Row wr (w.heap.size + 1) 30 [.slice ob tt.length cbp])) (fun _ i _ => (plsAll (placed 0 ss)).length - (intOf i).toNat)
  case atStart => exact ⟨0, rfl, Nat.zero_le _, HI3⟩
  case round =>
    obtain ⟨k, rfl, hk, hP⟩ := hrel
    by_cases hlt : k < (plsAll (placed 0 ss)).length
    · obtain ⟨⟨i, j, x⟩, hqk⟩ : ∃ q, (placed 0 ss)[k]? = some q := ⟨_, List.getElem?_eq_getElem (by rw [HLN.out] at hlt; exact hlt)⟩
      have hqm := List.mem_of_getElem? hqk
      obtain ⟨o', c', he', hat⟩ := argPlaces_of_owns hP.out.1.lst
      cases he'
      obtain ⟨b5, f5, rfl, hb5, q5⟩ := hat.at (by omega)
      obtain ⟨r0, r1⟩ := q5 k ((i : Int), (j : Int)) (plsAll_at hqk)
      have hba := (Below.refl wr.heap.size wr).alloc (Nat.le_refl _) (.cells #[.int .i64 (i : Int), .int .i64 (j : Int)] 37)
      have HPA := Lib.hid (And.intro (hP.out.1.step hba) (hP.out.2.below hba hP.out.2.lt))
      have g4 := HPA.out.1.box.cell (i := 0) (by rfl)
      have h4 := HPA.out.2.cell (i := 0) (v := .slice ob tt.length cbp) (by rfl)
      have RPB := Lib.hid (Row.new wr [.int .i64 (i : Int), .int .i64 (j : Int)] 37)
      have a0 := RPB.out.cell (i := 0) (v := .int .i64 (i : Int)) (by rfl)
      have a1 := RPB.out.cell (i := 1) (v := .int .i64 (j : Int)) (by rfl)
      have HST : Hid (filtL (chgAB ss tt) ((placed 0 ss).take (k + 1)) = filtL (chgAB ss tt) ((placed 0 ss).take k) ++ if chgAB ss tt (i, j, x) = true then [((i : Int), (j : Int))] else []) := Lib.hid (by rw [List.take_add_one, hqk]; exact filtL_snoc _ _ _)
      have HQM := Lib.hid hqm
      obtain ⟨y, hqy⟩ := HV.out.2.2 i j x hqm
      have HQ2 := Lib.hid hqy
      have hsl : (filtL (chgAB ss tt) ((placed 0 ss).take k)).length < 1000000 := by
        have h1 := filtL_length (chgAB ss tt) ((placed 0 ss).take k)
        rw [List.length_take] at h1
        omega
      obtain ⟨q, hq⟩ : ∃ q, decide (meanIt ss (i, j, x) = meanIt tt (i, j, y)) = q := ⟨_, rfl⟩
      have HQB : Hid (chgAB ss tt (i, j, x) = !q) := Lib.hid (by rw [← hq]; unfold chgAB; rw [show meanAt tt (((i, j, x) : Nat × Nat × It).1 : Int) (((i, j, x) : Nat × Nat × It).2.1 : Int) = meanIt tt (i, j, y) from meanAt_of HQ2.out])
      have HQD := Lib.hid hq
      have HML := Lib.hid (And.intro (meanIt_length HV.out.1 (i, j, x)) (meanIt_length HV.out.2.1 (i, j, y)))
      have HSZ : Hid (w.heap.size ≤ wr.heap.size) := Lib.hid hP.out.1.below.size
      clear hba q5 hat hqk hqm hq hqy
      go_wp2
      generalize wr.alloc (.cells #[.int .i64 (i : Int), .int .i64 (j : Int)] 37) = wA at *
      go_cut [23] (fun s23 wx => s23 = .bool (!q) ∧ Below wA.heap.size wA wx)
      case first =>
        refine wp_region_kept (S := fun w' => w'.cell? ⟨w.heap.size, 0, none⟩ = some (.slice oa ss.length cap) ∧ w'.cell? ⟨w.heap.size + 1, 0, none⟩ = some (.slice ob tt.length cbp) ∧ w'.cell? ⟨wr.heap.size, 0, none⟩ = some (.int .i64 (i : Int)) ∧ w'.cell? ⟨wr.heap.size, 1, none⟩ = some (.int .i64 (j : Int))) 20 (by kernel_rfl) ?_
        have hS0 := And.intro (cell_drew g4) (And.intro (cell_drew h4) (And.intro (cell_drew a0) (cell_drew a1)))
        refine KeptAny.take (i := 0) (v := ?_) (by kernel_rfl) rfl rfl (by kernel_rfl) (by kernel_rfl) (by kernel_rfl) (fun _ _ _ h => h) (by rfl) (fun w' hw' => ?_) (fun _ => rfl) hS0 ?_
        rotate_left
        · (obtain ⟨g0, g1, g2, g3⟩ := hw'; go_simp; try with_reducible rfl)
        refine KeptAny.take (i := 1) (v := ?_) (by kernel_rfl) rfl rfl (by kernel_rfl) (by kernel_rfl) (by kernel_rfl) (fun _ _ _ h => h) (by rfl) (fun w' hw' => ?_) (fun _ => rfl) hS0 ?_
        rotate_left
        · (obtain ⟨g0, g1, g2, g3⟩ := hw'; go_simp; try with_reducible rfl)
        refine KeptAny.take (i := 3) (v := ?_) (by kernel_rfl) rfl rfl (by kernel_rfl) (by kernel_rfl) (by kernel_rfl) (fun _ _ _ h => h) (by rfl) (fun w' hw' => ?_) (fun _ => rfl) hS0 ?_
        rotate_left
        · (obtain ⟨g0, g1, g2, g3⟩ := hw'; go_simp; try with_reducible rfl)
        refine KeptAny.take (i := 4) (v := ?_) (by kernel_rfl) rfl rfl (by kernel_rfl) (by kernel_rfl) (by kernel_rfl) (fun _ _ _ h => h) (by rfl) (fun w' hw' => ?_) (fun _ => rfl) hS0 ?_
        rotate_left
        · (obtain ⟨g0, g1, g2, g3⟩ := hw'; go_simp; try with_reducible rfl)
        have HD0 : Hid (Below wA.heap.size wA wA.drew) := Lib.hid ((Below.refl _ _).drew)
        have HS0 := Lib.hid hS0
        clear hS0 g4 h4 a0 a1
        refine KeptAny.one (i := 2) (by kernel_rfl) rfl (by rfl) (fun K hK => ?_)
        go_simp
        refine ⟨trivial, ?_⟩
        refine ((callsIn_wide (n := 5)).2 (specResolve_any ss HV.out.1 HF.out.1 oa cap HQM.out _ (HC.out.1.below (HPA.out.1.below.trans (HD0.out.mono HPA.out.1.below.size)) (Nat.le_refl _)))).mono ?_
        rintro e wa ⟨va, rfl, hown, hb⟩
        obtain ⟨o1, c1, rfl, hA⟩ := argPlaces_of_owns hown
        have HD1 := Lib.hid (HD0.out.trans (hb.mono HD0.out.size))
        have HS1a := Lib.hid (And.intro (cell_grow hb HS0.out.1) (And.intro (cell_grow hb HS0.out.2.1) (And.intro (cell_grow hb HS0.out.2.2.1) (cell_grow hb HS0.out.2.2.2))))
        have HA := Lib.hid hA
        clear hb hown hA
        refine hK.out _ _ HS1a.out (fun _ => ?_)
        clear hK
        refine KeptAny.one (i := 5) (by kernel_rfl) rfl (by rfl) (fun K hK => ?_)
        go_simp
        refine ⟨trivial, ?_⟩
        refine ((callsIn_wide (n := 5)).2 (specResolve_any tt HV.out.2.1 HF.out.2 ob cbp HQ2.out _ (HC.out.2.below (HPA.out.1.below.trans (HD1.out.mono HPA.out.1.below.size)) (Nat.le_refl _)))).mono ?_
        rintro e wb ⟨vb, rfl, hown, hb⟩
        obtain ⟨o2, c2, rfl, hB⟩ := argPlaces_of_owns hown
        have HD2 := Lib.hid (HD1.out.trans (hb.mono HD1.out.size))
        have HS2a := Lib.hid (And.intro (cell_grow hb HS1a.out.1) (And.intro (cell_grow hb HS1a.out.2.1) (And.intro (cell_grow hb HS1a.out.2.2.1) (cell_grow hb HS1a.out.2.2.2))))
        have HA2 := Lib.hid (HA.out.below hb)
        have HBP := Lib.hid hB
        clear hb hown hB
        refine hK.out _ _ HS2a.out (fun _ => ?_)
        clear hK
        refine KeptAny.one (i := 6) (by kernel_rfl) rfl (by rfl) (fun K hK => ?_)
        go_simp
        refine ⟨trivial, ?_⟩
        refine ((callsIn_wide (n := 5)).2 (l7List_any (meanIt ss (i, j, x)) (meanIt tt (i, j, y)) o1 o2 c1 c2 _ (Nat.le_trans HML.out.1 (by decide)) (Nat.le_trans HML.out.2 (by decide)) HA2.out HBP.out)).mono ?_
        rintro e wc ⟨rfl, hb⟩
        rw [HQD.out]
        have HD3 := Lib.hid (HD2.out.trans (hb.mono HD2.out.size))
        have HS3 := Lib.hid (And.intro (cell_grow hb HS2a.out.1) (And.intro (cell_grow hb HS2a.out.2.1) (And.intro (cell_grow hb HS2a.out.2.2.1) (cell_grow hb HS2a.out.2.2.2))))
        clear hb
        refine hK.out _ _ HS3.out (fun _ => ?_)
        clear hK
        refine KeptAny.one (i := 7) (by kernel_rfl) rfl (by rfl) (fun K hK => ?_)
        go_simp
        refine hK.out _ _ HS3.out (fun _ => ?_)
        clear hK
        refine KeptAny.done (by kernel_rfl) ?_ _
        go_wp2
        go_meet
        exact ⟨rfl, HD3.out⟩
      case rest =>
        obtain ⟨rfl, hbc⟩ := hcut
        have HP5 := Lib.hid (And.intro (HPA.out.1.step hbc) (HPA.out.2.below hbc HPA.out.2.lt))
        have RP5 := Lib.hid (RPB.out.below hbc RPB.out.lt)
        have p0 := RP5.out.cell (i := 0) (v := .int .i64 (i : Int)) (by rfl)
        have p1 := RP5.out.cell (i := 1) (v := .int .i64 (j : Int)) (by rfl)
        have HSZ5 := Lib.hid (Nat.le_trans HPA.out.1.below.size hbc.size)
        clear hbc g4 h4 r0 r1 a0 a1
        cases q
        · have HE : Hid (filtL (chgAB ss tt) ((placed 0 ss).take (k + 1)) = filtL (chgAB ss tt) ((placed 0 ss).take k) ++ [((i : Int), (j : Int))]) := Lib.hid (by rw [HST.out, show chgAB ss tt (i, j, x) = true from HQB.out]; rfl)
          obtain ⟨v', w7, hrun, hown', hgrow, hbl⟩ := append_place_at HP5.out.1.row (i : Int) (j : Int) hsl HSZ5.out 47
          have HP7 : Hid (ItemsAt w w7 oa cap ss.length w2.heap.size v' _ (filtL (chgAB ss tt) ((placed 0 ss).take (k + 1))) (plsAll (placed 0 ss)) ∧ Row w7 (w.heap.size + 1) 30 [.slice ob tt.length cbp]) := Lib.hid ⟨by rw [HE.out]; exact HP5.out.1.snoc hown' hgrow hbl, (HP5.out.2.alloc _).grown hgrow (ownsRow_ne2 HP5.out.2 (by decide) HP5.out.1.row)⟩
          have HRUN := Lib.hid hrun
          clear hown' hgrow hbl hrun
          go_wp2_with (at_builtin; refine wpList_append_run rfl _ _ 47 rfl HRUN.out ?_)
          go_wp2
          go_roundw
          case rel => exact ⟨k + 1, by go_num, by omega, HP7⟩
          case measure => simp only [intOf]; omega
        · have HE : Hid (filtL (chgAB ss tt) ((placed 0 ss).take (k + 1)) = filtL (chgAB ss tt) ((placed 0 ss).take k)) := Lib.hid (by rw [HST.out, if_neg (by rw [HQB.out]; decide), List.append_nil])
          go_wp2
          go_roundw
          case rel => exact ⟨k + 1, by go_num, by omega, by rw [HE.out]; exact HP5⟩
          case measure => simp only [intOf]; omega
    · obtain rfl : k = (plsAll (placed 0 ss)).length := by omega
      have HE : Hid ((placed 0 ss).take (plsAll (placed 0 ss)).length = placed 0 ss) := Lib.hid (by rw [HLN.out, List.take_length])
      go_wp2
      go_ret
      exact ⟨_, rfl, by have := hP.out.1.row; rw [HE.out] at this; exact this, hP.out.1.below⟩
end Go.Proofs.YtgbbhiihhcdpbaaDoor
