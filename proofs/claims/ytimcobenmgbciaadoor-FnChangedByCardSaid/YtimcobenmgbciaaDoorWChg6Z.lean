/-
  The walk of the given l6Changed. Conditions: the graph is valid, lies in memory, and has the item.
-/
import Derived.Test.YtimcobenmgbciaaDoorWSame6Z
import Derived.Test.YtimcobenmgbciaaDoorJEZ
import Derived.Test.YtimcobenmgbciaaDoorWSpecRemove2Z
namespace Go.Proofs.YtimcobenmgbciaaDoor
open Go Go.RowKit
theorem OwnGr.holdsAt6 {w : World} {B : Nat} {o : Option Addr} {n c : Nat} {l : List Sc} {hs : List Value} (h : OwnGr w B (.slice o n c) l hs) : HoldsScopes w o l := by
  obtain ⟨o2, c2, he, hh⟩ := h.holds
  simp only [Value.slice.injEq] at he
  obtain ⟨rfl, -, -⟩ := he
  exact hh
/-- A graph stays where a list of places grows. -/
theorem OwnGr.pushed {w w' : World} {B B2 n : Nat} {v u : Value} {us : List Sc} {hs xs : List Value} {o : Obj} (h : OwnGr w B v us hs) (hp : w.ownsRow B2 27 2 u n xs) (hg : (w.alloc o).grownBy w' u.ownBlock) : OwnGr w' B v us hs :=
  ⟨h.len, ownsRow_apart (h.row.alloc o) hg (owns_types_apart h.row hp (by decide)), fun i s z h1 h2 => ownsRow_apart ((h.items i s z h1 h2).alloc o) hg (owns_types_apart (h.items i s z h1 h2) hp (by decide)), h.apart⟩
set_option maxRecDepth 100000 in
set_option maxHeartbeats 8000000 in
theorem l6Changed_any (ss : List Sc) (hv : Valid ss) (hF : Fair ss) (oa : Option Addr) (cap a b : Nat) {s0 : Sc} {x0 : It} (hs0 : ss[a]? = some s0) (hx0 : s0.items[b]? = some x0) (w : World) (hc : HoldsScopes w oa ss) :
    Calls Tryd.prog 71 #[.agg #[.slice oa ss.length cap], .agg #[.int .i64 (a : Int), .int .i64 (b : Int)]] w (PlsGot (chgP ss a b) w) := by
  have hb0 : Below w.heap.size w (((w.alloc (.cells #[.slice oa ss.length cap] 25)).alloc (.cells #[.int .i64 (a : Int), .int .i64 (b : Int)] 27)).alloc (.cells #[] 27)) := (((Below.refl _ _).alloc (Nat.le_refl _) _).alloc (by simp) _).alloc (by simp; omega) _
  have RG := Lib.hid (((Row.new w [.slice oa ss.length cap] 25).alloc (.cells #[.int .i64 (a : Int), .int .i64 (b : Int)] 27)).alloc (.cells #[] 27))
  have RH0 := (Row.new (w.alloc (.cells #[.slice oa ss.length cap] 25)) [.int .i64 (a : Int), .int .i64 (b : Int)] 27).alloc (.cells #[] 27)
  rw [World.size_alloc] at RH0
  have RH := Lib.hid RH0
  have hown0 : (((w.alloc (.cells #[.slice oa ss.length cap] 25)).alloc (.cells #[.int .i64 (a : Int), .int .i64 (b : Int)] 27)).alloc (.cells #[] 27)).ownsRow w.heap.size 27 2 (.slice (some ⟨w.heap.size + 1 + 1, 0, none⟩) 0 0) 0 [] := by
    have h0 := World.ownsRow_made (base := w.heap.size) (e := 27) (size := 2) ((w.alloc (.cells #[.slice oa ss.length cap] 25)).alloc (.cells #[.int .i64 (a : Int), .int .i64 (b : Int)] 27)) #[] 0 (by simp; omega) (by unfold maxLen; omega) rfl
    rw [World.size_alloc, World.size_alloc] at h0
    exact h0
  have h30 := placed_bound 0 ss 6 5 hv.count.2 hv.five
  have HAB : Hid (a < 1000 ∧ b < 1000) := Lib.hid ⟨by have h1 := (List.getElem?_eq_some_iff.1 hs0).1; have h2 := hv.count.2; omega, by have h1 := (List.getElem?_eq_some_iff.1 hx0).1; have h2 := hv.five s0 (List.mem_of_getElem? hs0); omega⟩
  have C1 := Lib.hid (specRemove_any ss (by have := hv.count.2; omega) (fun s hs => by have := hv.five s hs; omega) oa cap a b s0 x0 hs0 hx0 _ (hc.below hb0 (Nat.le_refl _)))
  have HO0 := Lib.hid hown0
  have HB0 := Lib.hid hb0
  have HC := Lib.hid hc
  have HF := Lib.hid hF
  have HV := Lib.hid hv
  have g0 := RG.out.cell (i := 0) (by rfl)
  have e0 := RH.out.cell (i := 0) (v := .int .i64 (a : Int)) (by rfl)
  have e1 := RH.out.cell (i := 1) (v := .int .i64 (b : Int)) (by rfl)
  have HS1 : Hid (w.heap.size + 1 + 1 < (((w.alloc (.cells #[.slice oa ss.length cap] 25)).alloc (.cells #[.int .i64 (a : Int), .int .i64 (b : Int)] 27)).alloc (.cells #[] 27)).heap.size) := Lib.hid (by simp)
  clear hF hc hb0 hown0 RH0 hs0 hx0
  go_enter Tryd.func71, Tryd.ntmps71
  go_wp2_with fail
  generalize (((w.alloc (.cells #[.slice oa ss.length cap] 25)).alloc (.cells #[.int .i64 (a : Int), .int .i64 (b : Int)] 27)).alloc (.cells #[] 27)) = w2 at *
  refine C1.out.mono ?_
  rintro e w3 ⟨v, hs, rfl, hO, hb3⟩
  obtain ⟨oh, ch, rfl, -⟩ := hO.holds
  have hbN := (Below.refl w3.heap.size w3).alloc (Nat.le_refl _) (.cells #[.slice oh (rmvP ss a b).length ch] 25)
  have hbx := hb3.trans (hbN.mono hb3.size)
  have RN := Lib.hid (Row.new w3 [.slice oh (rmvP ss a b).length ch] 25)
  have RG1 := Lib.hid (RG.out.below hbx RG.out.lt)
  have RH1 := Lib.hid (RH.out.below hbx RH.out.lt)
  have HO1 := Lib.hid (ownsRow_below HO0.out hbx)
  have HB1 := Lib.hid (HB0.out.trans (hbx.mono HB0.out.size))
  have HGR := Lib.hid ((hO.below hbN).lower HB0.out.size)
  have HS2 : Hid (w.heap.size + 1 + 1 < (w3.alloc (.cells #[.slice oh (rmvP ss a b).length ch] 25)).heap.size) := Lib.hid (Nat.lt_of_lt_of_le HS1.out hbx.size)
  have C3 := Lib.hid (l4Items_any ss (by have := HV.out.count.2; omega) (fun s hs => by have := HV.out.five s hs; omega) (by omega) oa cap _ (HC.out.below HB1.out (Nat.le_refl _)))
  have g1 := RG1.out.cell (i := 0) (v := .slice oa ss.length cap) (by rfl)
  clear hv hO hb3 hbN hbx g0 e0 e1
  go_wp2_with fail
  generalize w3.alloc (.cells #[.slice oh (rmvP ss a b).length ch] 25) = w4 at *
  refine C3.out.mono ?_
  rintro e w5 ⟨tl, rfl, htl, hb5⟩
  have hfar : tl = .slice none 0 0 ∨ tl.ownBlock ≠ (Value.slice (some ⟨w.heap.size + 1 + 1, 0, none⟩) 0 0).ownBlock := by
    rcases htl.2 with h1 | ⟨g, cp, cur, rfl, hgB, _⟩
    · exact .inl h1.1
    · refine .inr fun e => ?_
      simp only [Value.ownBlock, Option.some.injEq] at e
      have := HS2.out
      omega
  have HI3 : Hid (ItemsAt w w5 oa cap ss.length w4.heap.size (.slice (some ⟨w.heap.size + 1 + 1, 0, none⟩) 0 0) tl [] (plsAll (placed 0 ss)) ∧ Row w5 (w.heap.size + 1) 27 [.int .i64 (a : Int), .int .i64 (b : Int)] ∧ Row w5 w3.heap.size 25 [.slice oh (rmvP ss a b).length ch] ∧ some (w.heap.size + 1) ≠ (Value.slice (some ⟨w.heap.size + 1 + 1, 0, none⟩) 0 0).ownBlock ∧ OwnGr w5 w.heap.size (.slice oh (rmvP ss a b).length ch) (rmvP ss a b) hs) := Lib.hid
    ⟨⟨RG1.out.below hb5 RG1.out.lt, ownsRow_below HO1.out hb5, htl, hfar, HB1.out.trans (hb5.mono HB1.out.size)⟩, RH1.out.below hb5 RH1.out.lt, RN.out.below hb5 RN.out.lt, (by intro e; simp only [Value.ownBlock, Option.some.injEq] at e; omega), HGR.out.below hb5⟩
  obtain ⟨ot, ct, rfl, hat⟩ := argPlaces_of_owns htl
  have HLN : Hid ((plsAll (placed 0 ss)).length = (placed 0 ss).length) := Lib.hid (plsAll_length _)
  have hln : (plsAll (placed 0 ss)).length ≤ 30 := by rw [plsAll_length]; exact h30
  clear hb5 htl hat g1 hfar
  go_wp2
  go_loopw [5, 16] (fun v i wr => ∃ k : Nat, i = .int .i64 k ∧ k ≤ (plsAll (placed 0 ss)).length ∧ Hid (ItemsAt w wr oa cap ss.length w4.heap.size v (.slice ot (plsAll (placed 0 ss)).length ct) (filtL (chgB ss a b) ((placed 0 ss).take k)) (plsAll (placed 0 ss)) ∧ Row wr (w.heap.size + 1) 27 [.int .i64 (a : Int), .int .i64 (b : Int)] ∧ Row wr w3.heap.size 25 [.slice oh (rmvP ss a b).length ch] ∧ some (w.heap.size + 1) ≠ v.ownBlock ∧ OwnGr wr w.heap.size (.slice oh (rmvP ss a b).length ch) (rmvP ss a b) hs)) (fun _ i _ => (plsAll (placed 0 ss)).length - (intOf i).toNat)
  case atStart => exact ⟨0, rfl, Nat.zero_le _, HI3⟩
  case round =>
    obtain ⟨k, rfl, hk, hP⟩ := hrel
    by_cases hlt : k < (plsAll (placed 0 ss)).length
    · obtain ⟨⟨i, j, x⟩, hqk⟩ : ∃ q, (placed 0 ss)[k]? = some q := ⟨_, List.getElem?_eq_getElem (by rw [HLN.out] at hlt; exact hlt)⟩
      have hqm := List.mem_of_getElem? hqk
      obtain ⟨o', c', he', hat⟩ := argPlaces_of_owns hP.out.1.lst
      cases he'
      obtain ⟨b5, f5, rfl, hb5, q5⟩ := hat.at (by omega)
      obtain ⟨r0, r1⟩ := q5 k ((i : Int), (j : Int)) (plsAll_at hqk)
      have hba := (Below.refl wr.heap.size wr).alloc (Nat.le_refl _) (.cells #[.int .i64 (i : Int), .int .i64 (j : Int)] 27)
      have HPA := Lib.hid (And.intro (hP.out.1.step hba) (And.intro (hP.out.2.1.below hba hP.out.2.1.lt) (And.intro (hP.out.2.2.1.below hba hP.out.2.2.1.lt) (And.intro hP.out.2.2.2.1 (hP.out.2.2.2.2.below hba)))))
      have g4 := HPA.out.1.box.cell (i := 0) (by rfl)
      have h4 := HPA.out.2.2.1.cell (i := 0) (v := .slice oh (rmvP ss a b).length ch) (by rfl)
      have b0 := HPA.out.2.1.cell (i := 0) (v := .int .i64 (a : Int)) (by rfl)
      have b1 := HPA.out.2.1.cell (i := 1) (v := .int .i64 (b : Int)) (by rfl)
      have RPB := Lib.hid (Row.new wr [.int .i64 (i : Int), .int .i64 (j : Int)] 27)
      have a0 := RPB.out.cell (i := 0) (v := .int .i64 (i : Int)) (by rfl)
      have a1 := RPB.out.cell (i := 1) (v := .int .i64 (j : Int)) (by rfl)
      have HST : Hid (filtL (chgB ss a b) ((placed 0 ss).take (k + 1)) = filtL (chgB ss a b) ((placed 0 ss).take k) ++ if chgB ss a b (i, j, x) = true then [((i : Int), (j : Int))] else []) := Lib.hid (by rw [List.take_add_one, hqk]; exact filtL_snoc _ _ _)
      have HQM := Lib.hid hqm
      have hsl : (filtL (chgB ss a b) ((placed 0 ss).take k)).length < 1000000 := by
        have h1 := filtL_length (chgB ss a b) ((placed 0 ss).take k)
        rw [List.length_take] at h1
        omega
      clear hba q5 hat hqk hqm
      by_cases hi : i = a
      · by_cases hj : j = b
        · subst hi
          subst hj
          have HE : Hid (filtL (chgB ss i j) ((placed 0 ss).take (k + 1)) = filtL (chgB ss i j) ((placed 0 ss).take k)) := Lib.hid (by rw [HST.out]; unfold chgB; simp)
          go_wp2
          generalize wr.alloc (.cells #[.int .i64 (i : Int), .int .i64 (j : Int)] 27) = wA at *
          go_roundw
          case rel => exact ⟨k + 1, by go_num, by omega, by rw [HE.out]; exact HPA⟩
          case measure => simp only [intOf]; omega
        · have HNJ := Lib.hid hj
          have d1 : ((j : Int) == (b : Int)) = false := by simp; omega
          subst hi
          have C4 := Lib.hid (l6Same_any ss HV.out HF.out oa oh cap ch i b HAB.out.2 HQM.out (fun h => HNJ.out h.2) (wr.alloc (.cells #[.int .i64 (i : Int), .int .i64 (j : Int)] 27)) (HC.out.below HPA.out.1.below (Nat.le_refl _)) HPA.out.2.2.2.2.holdsAt6)
          go_wp2_with fail
          refine C4.out.mono ?_
          rintro e w5 ⟨rfl, hb6⟩
          have HP5 := Lib.hid (And.intro (HPA.out.1.step hb6) (And.intro (HPA.out.2.1.below hb6 HPA.out.2.1.lt) (And.intro (HPA.out.2.2.1.below hb6 HPA.out.2.2.1.lt) (And.intro HPA.out.2.2.2.1 (HPA.out.2.2.2.2.below hb6)))))
          have RP5 := Lib.hid (RPB.out.below hb6 RPB.out.lt)
          have p0 := RP5.out.cell (i := 0) (v := .int .i64 (i : Int)) (by rfl)
          have p1 := RP5.out.cell (i := 1) (v := .int .i64 (j : Int)) (by rfl)
          have HSZ5 := Lib.hid (Nat.le_trans HPA.out.1.below.size hb6.size)
          have HCB : Hid (chgB ss i b (i, j, x) = !(sameB ss i b (i, j, x))) := Lib.hid (by unfold chgB; rw [show decide (((i, j, x) : Nat × Nat × It).1 = i ∧ ((i, j, x) : Nat × Nat × It).2.1 = b) = false from decide_eq_false (fun h => HNJ.out h.2)]; rfl)
          obtain ⟨q, hq⟩ : ∃ q, sameB ss i b (i, j, x) = q := ⟨_, rfl⟩
          rw [hq]
          have HQ := Lib.hid hq
          clear hb6 hq g4 h4 a0 a1 b0 b1 r0 r1
          cases q
          · have HE : Hid (filtL (chgB ss i b) ((placed 0 ss).take (k + 1)) = filtL (chgB ss i b) ((placed 0 ss).take k) ++ [((i : Int), (j : Int))]) := Lib.hid (by rw [HST.out, HCB.out, HQ.out]; rfl)
            obtain ⟨v', w7, hrun, hown', hgrow, hbl⟩ := append_place_at HP5.out.1.row (i : Int) (j : Int) hsl HSZ5.out 30
            have HP7 : Hid (ItemsAt w w7 oa cap ss.length w4.heap.size v' _ (filtL (chgB ss i b) ((placed 0 ss).take (k + 1))) (plsAll (placed 0 ss)) ∧ Row w7 (w.heap.size + 1) 27 [.int .i64 (i : Int), .int .i64 (b : Int)] ∧ Row w7 w3.heap.size 25 [.slice oh (rmvP ss i b).length ch] ∧ some (w.heap.size + 1) ≠ v'.ownBlock ∧ OwnGr w7 w.heap.size (.slice oh (rmvP ss i b).length ch) (rmvP ss i b) hs) := Lib.hid
              ⟨by rw [HE.out]; exact HP5.out.1.snoc hown' hgrow hbl, (HP5.out.2.1.alloc _).grown hgrow HP5.out.2.2.2.1, (HP5.out.2.2.1.alloc _).grown hgrow (ownsRow_ne2 HP5.out.2.2.1 (by decide) HP5.out.1.row), (by
                rcases hbl with h | h
                · rw [h]; exact HP5.out.2.2.2.1
                · rw [h]; intro e; have h1 := Option.some.inj e; have h2 := HP5.out.2.1.lt; omega), HP5.out.2.2.2.2.pushed HP5.out.1.row hgrow⟩
            have HRUN := Lib.hid hrun
            clear hown' hgrow hbl hrun
            go_wp2_with (at_builtin; refine wpList_append_run rfl _ _ 30 rfl HRUN.out ?_)
            go_wp2
            go_roundw
            case rel => exact ⟨k + 1, by go_num, by omega, HP7⟩
            case measure => simp only [intOf]; omega
          · have HE : Hid (filtL (chgB ss i b) ((placed 0 ss).take (k + 1)) = filtL (chgB ss i b) ((placed 0 ss).take k)) := Lib.hid (by rw [HST.out, HCB.out, HQ.out]; simp)
            go_wp2
            go_roundw
            case rel => exact ⟨k + 1, by go_num, by omega, by rw [HE.out]; exact HP5⟩
            case measure => simp only [intOf]; omega
      · have HNJ := Lib.hid hi
        have d1 : ((i : Int) == (a : Int)) = false := by simp; omega
        have C4 := Lib.hid (l6Same_any ss HV.out HF.out oa oh cap ch a b HAB.out.2 HQM.out (fun h => HNJ.out h.1) (wr.alloc (.cells #[.int .i64 (i : Int), .int .i64 (j : Int)] 27)) (HC.out.below HPA.out.1.below (Nat.le_refl _)) HPA.out.2.2.2.2.holdsAt6)
        go_wp2_with fail
        refine C4.out.mono ?_
        rintro e w5 ⟨rfl, hb6⟩
        have HP5 := Lib.hid (And.intro (HPA.out.1.step hb6) (And.intro (HPA.out.2.1.below hb6 HPA.out.2.1.lt) (And.intro (HPA.out.2.2.1.below hb6 HPA.out.2.2.1.lt) (And.intro HPA.out.2.2.2.1 (HPA.out.2.2.2.2.below hb6)))))
        have RP5 := Lib.hid (RPB.out.below hb6 RPB.out.lt)
        have p0 := RP5.out.cell (i := 0) (v := .int .i64 (i : Int)) (by rfl)
        have p1 := RP5.out.cell (i := 1) (v := .int .i64 (j : Int)) (by rfl)
        have HSZ5 := Lib.hid (Nat.le_trans HPA.out.1.below.size hb6.size)
        have HCB : Hid (chgB ss a b (i, j, x) = !(sameB ss a b (i, j, x))) := Lib.hid (by unfold chgB; rw [show decide (((i, j, x) : Nat × Nat × It).1 = a ∧ ((i, j, x) : Nat × Nat × It).2.1 = b) = false from decide_eq_false (fun h => HNJ.out h.1)]; rfl)
        obtain ⟨q, hq⟩ : ∃ q, sameB ss a b (i, j, x) = q := ⟨_, rfl⟩
        rw [hq]
        have HQ := Lib.hid hq
        clear hb6 hq g4 h4 a0 a1 b0 b1 r0 r1
        cases q
        · have HE : Hid (filtL (chgB ss a b) ((placed 0 ss).take (k + 1)) = filtL (chgB ss a b) ((placed 0 ss).take k) ++ [((i : Int), (j : Int))]) := Lib.hid (by rw [HST.out, HCB.out, HQ.out]; rfl)
          obtain ⟨v', w7, hrun, hown', hgrow, hbl⟩ := append_place_at HP5.out.1.row (i : Int) (j : Int) hsl HSZ5.out 30
          have HP7 : Hid (ItemsAt w w7 oa cap ss.length w4.heap.size v' _ (filtL (chgB ss a b) ((placed 0 ss).take (k + 1))) (plsAll (placed 0 ss)) ∧ Row w7 (w.heap.size + 1) 27 [.int .i64 (a : Int), .int .i64 (b : Int)] ∧ Row w7 w3.heap.size 25 [.slice oh (rmvP ss a b).length ch] ∧ some (w.heap.size + 1) ≠ v'.ownBlock ∧ OwnGr w7 w.heap.size (.slice oh (rmvP ss a b).length ch) (rmvP ss a b) hs) := Lib.hid
            ⟨by rw [HE.out]; exact HP5.out.1.snoc hown' hgrow hbl, (HP5.out.2.1.alloc _).grown hgrow HP5.out.2.2.2.1, (HP5.out.2.2.1.alloc _).grown hgrow (ownsRow_ne2 HP5.out.2.2.1 (by decide) HP5.out.1.row), (by
              rcases hbl with h | h
              · rw [h]; exact HP5.out.2.2.2.1
              · rw [h]; intro e; have h1 := Option.some.inj e; have h2 := HP5.out.2.1.lt; omega), HP5.out.2.2.2.2.pushed HP5.out.1.row hgrow⟩
          have HRUN := Lib.hid hrun
          clear hown' hgrow hbl hrun
          go_wp2_with (at_builtin; refine wpList_append_run rfl _ _ 30 rfl HRUN.out ?_)
          go_wp2
          go_roundw
          case rel => exact ⟨k + 1, by go_num, by omega, HP7⟩
          case measure => simp only [intOf]; omega
        · have HE : Hid (filtL (chgB ss a b) ((placed 0 ss).take (k + 1)) = filtL (chgB ss a b) ((placed 0 ss).take k)) := Lib.hid (by rw [HST.out, HCB.out, HQ.out]; simp)
          go_wp2
          go_roundw
          case rel => exact ⟨k + 1, by go_num, by omega, by rw [HE.out]; exact HP5⟩
          case measure => simp only [intOf]; omega
    · obtain rfl : k = (plsAll (placed 0 ss)).length := by omega
      have HE : Hid ((placed 0 ss).take (plsAll (placed 0 ss)).length = placed 0 ss) := Lib.hid (by rw [HLN.out, List.take_length])
      go_wp2
      go_ret
      exact ⟨_, rfl, by have := hP.out.1.row; rw [HE.out] at this; exact this, hP.out.1.below⟩
end Go.Proofs.YtimcobenmgbciaaDoor
