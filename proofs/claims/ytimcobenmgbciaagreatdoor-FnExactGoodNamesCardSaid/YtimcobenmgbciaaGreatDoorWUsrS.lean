/-
  The walks of the given l6Declared, l6Users (of those that mean a place alone) and UsersOf. Conditions: the argument's memory holds the graph.
-/
import Derived.Test.YtimcobenmgbciaaGreatDoorUsr
import Derived.Test.YtimcobenmgbciaaGreatDoorJB
namespace Go.Proofs.YtimcobenmgbciaaGreatDoor
open Go Go.RowKit
attribute [local go_sem ↓] field_kind
theorem aloneB_decl {ss : List Sc} {d : Int × Int} {q : Nat × Nat × It} (h : q.2.2.kind = 1) : aloneB ss d q = false := by unfold aloneB; simp [h]
theorem aloneB_not {ss : List Sc} {d : Int × Int} {q : Nat × Nat × It} (h : d ∉ meanIt ss q) : aloneB ss d q = false := by
  unfold aloneB
  rw [decide_eq_false (show ¬ meanIt ss q = [d] from fun e => h (by rw [e]; exact List.mem_cons_self)), Bool.and_false]
theorem aloneB_more {ss : List Sc} {d : Int × Int} {q : Nat × Nat × It} (h : (meanIt ss q).length ≠ 1) : aloneB ss d q = false := by
  unfold aloneB
  rw [decide_eq_false (show ¬ meanIt ss q = [d] from fun e => h (by rw [e]; rfl)), Bool.and_false]
theorem aloneB_yes {ss : List Sc} {d : Int × Int} {q : Nat × Nat × It} (h : q.2.2.kind ≠ 1) (hd : d ∈ meanIt ss q) (hl : (meanIt ss q).length = 1) : aloneB ss d q = true := by
  unfold aloneB
  obtain ⟨e, he⟩ := List.length_eq_one_iff.1 hl
  rw [he] at hd
  rw [decide_eq_true h, decide_eq_true (show meanIt ss q = [d] by rw [he, List.mem_singleton.1 hd])]
  rfl
set_option maxRecDepth 100000 in
set_option maxHeartbeats 8000000 in
theorem l6Users_any (ss : List Sc) (hv : Valid ss) (hf : FitsScopes ss) (oa : Option Addr) (cap : Nat) (a b : Int) (w : World) (hc : HoldsScopes w oa ss) :
    Calls Tryz.prog 64 #[.agg #[.slice oa ss.length cap], .agg #[.int .i64 a, .int .i64 b], .bool true] w (PlsGot (usersP ss (a, b)) w) := by
  have hb0 : Below w.heap.size w (((w.alloc (.cells #[.slice oa ss.length cap] 32)).alloc (.cells #[.int .i64 a, .int .i64 b] 34)).alloc (.cells #[] 34)) := (((Below.refl _ _).alloc (Nat.le_refl _) _).alloc (by simp) _).alloc (by simp; omega) _
  have RG := Lib.hid (((Row.new w [.slice oa ss.length cap] 32).alloc (.cells #[.int .i64 a, .int .i64 b] 34)).alloc (.cells #[] 34))
  have RH0 := (Row.new (w.alloc (.cells #[.slice oa ss.length cap] 32)) [.int .i64 a, .int .i64 b] 34).alloc (.cells #[] 34)
  rw [World.size_alloc] at RH0
  have RH := Lib.hid RH0
  have hown0 : (((w.alloc (.cells #[.slice oa ss.length cap] 32)).alloc (.cells #[.int .i64 a, .int .i64 b] 34)).alloc (.cells #[] 34)).ownsRow w.heap.size 34 2 (.slice (some ⟨w.heap.size + 1 + 1, 0, none⟩) 0 0) 0 [] := by
    have h0 := World.ownsRow_made (base := w.heap.size) (e := 34) (size := 2) ((w.alloc (.cells #[.slice oa ss.length cap] 32)).alloc (.cells #[.int .i64 a, .int .i64 b] 34)) #[] 0 (by simp; omega) (by unfold maxLen; omega) rfl
    rw [World.size_alloc, World.size_alloc] at h0
    exact h0
  have h30 := placed_bound 0 ss 6 5 hv.count.2 hv.five
  have C3 := Lib.hid (l4Items_any ss (by have := hv.count.2; omega) (fun s hs => by have := hv.five s hs; omega) (by omega) oa cap _ (hc.below hb0 (Nat.le_refl _)))
  have HO0 := Lib.hid hown0
  have HB0 := Lib.hid hb0
  have HC := Lib.hid hc
  have HF := Lib.hid hf
  have HV := Lib.hid hv
  have g0 := RG.out.cell (i := 0) (by rfl)
  have HS1 : Hid (w.heap.size + 1 + 1 < (((w.alloc (.cells #[.slice oa ss.length cap] 32)).alloc (.cells #[.int .i64 a, .int .i64 b] 34)).alloc (.cells #[] 34)).heap.size) := Lib.hid (by simp)
  clear hf hc hb0 hown0 RH0 hv
  go_enter Tryz.func64, Tryz.ntmps64
  go_wp2_with fail
  generalize (((w.alloc (.cells #[.slice oa ss.length cap] 32)).alloc (.cells #[.int .i64 a, .int .i64 b] 34)).alloc (.cells #[] 34)) = w4 at *
  refine C3.out.mono ?_
  rintro e w5 ⟨tl, rfl, htl, hb5⟩
  have hfar : tl = .slice none 0 0 ∨ tl.ownBlock ≠ (Value.slice (some ⟨w.heap.size + 1 + 1, 0, none⟩) 0 0).ownBlock := by
    rcases htl.2 with h1 | ⟨g, cp, cur, rfl, hgB, _⟩
    · exact .inl h1.1
    · refine .inr fun e => ?_
      simp only [Value.ownBlock, Option.some.injEq] at e
      have := HS1.out
      omega
  have HI3 : Hid (ItemsAt w w5 oa cap ss.length w4.heap.size (.slice (some ⟨w.heap.size + 1 + 1, 0, none⟩) 0 0) tl [] (plsAll (placed 0 ss)) ∧ Row w5 (w.heap.size + 1) 34 [.int .i64 a, .int .i64 b] ∧ some (w.heap.size + 1) ≠ (Value.slice (some ⟨w.heap.size + 1 + 1, 0, none⟩) 0 0).ownBlock) := Lib.hid
    ⟨⟨RG.out.below hb5 RG.out.lt, ownsRow_below HO0.out hb5, htl, hfar, HB0.out.trans (hb5.mono HB0.out.size)⟩, RH.out.below hb5 RH.out.lt, (by intro e; simp only [Value.ownBlock, Option.some.injEq] at e; omega)⟩
  obtain ⟨ot, ct, rfl, hat⟩ := argPlaces_of_owns htl
  have HLN : Hid ((plsAll (placed 0 ss)).length = (placed 0 ss).length) := Lib.hid (plsAll_length _)
  have hln : (plsAll (placed 0 ss)).length ≤ 30 := by rw [plsAll_length]; exact h30
  clear hb5 htl hat g0 hfar
  go_wp2
  go_loopw [7, 15] (fun v i wr => ∃ k : Nat, i = .int .i64 k ∧ k ≤ (plsAll (placed 0 ss)).length ∧ Hid (ItemsAt w wr oa cap ss.length w4.heap.size v (.slice ot (plsAll (placed 0 ss)).length ct) (filtL (aloneB ss (a, b)) ((placed 0 ss).take k)) (plsAll (placed 0 ss)) ∧ Row wr (w.heap.size + 1) 34 [.int .i64 a, .int .i64 b] ∧ some (w.heap.size + 1) ≠ v.ownBlock)) (fun _ i _ => (plsAll (placed 0 ss)).length - (intOf i).toNat)
  case atStart => exact ⟨0, rfl, Nat.zero_le _, HI3⟩
  case round =>
    obtain ⟨k, rfl, hk, hP⟩ := hrel
    by_cases hlt : k < (plsAll (placed 0 ss)).length
    · obtain ⟨⟨i, j, x⟩, hqk⟩ : ∃ q, (placed 0 ss)[k]? = some q := ⟨_, List.getElem?_eq_getElem (by rw [HLN.out] at hlt; exact hlt)⟩
      have hqm := List.mem_of_getElem? hqk
      obtain ⟨s, hs1, hx1⟩ := placed_at hqm
      dsimp only at hs1 hx1
      obtain ⟨o', c', he', hat⟩ := argPlaces_of_owns hP.out.1.lst
      cases he'
      obtain ⟨b5, f5, rfl, hb5, q5⟩ := hat.at (by omega)
      obtain ⟨r0, r1⟩ := q5 k ((i : Int), (j : Int)) (plsAll_at hqk)
      have hba := (Below.refl wr.heap.size wr).alloc (Nat.le_refl _) (.cells #[.int .i64 (i : Int), .int .i64 (j : Int)] 34)
      have HPA := Lib.hid (And.intro (hP.out.1.step hba) (And.intro (hP.out.2.1.below hba hP.out.2.1.lt) hP.out.2.2))
      have g4 := HPA.out.1.box.cell (i := 0) (by rfl)
      have b0 := HPA.out.2.1.cell (i := 0) (v := .int .i64 a) (by rfl)
      have b1 := HPA.out.2.1.cell (i := 1) (v := .int .i64 b) (by rfl)
      have RPB := Lib.hid (Row.new wr [.int .i64 (i : Int), .int .i64 (j : Int)] 34)
      have a0 := RPB.out.cell (i := 0) (v := .int .i64 (i : Int)) (by rfl)
      have a1 := RPB.out.cell (i := 1) (v := .int .i64 (j : Int)) (by rfl)
      have HST : Hid (filtL (aloneB ss (a, b)) ((placed 0 ss).take (k + 1)) = filtL (aloneB ss (a, b)) ((placed 0 ss).take k) ++ if aloneB ss (a, b) (i, j, x) = true then [((i : Int), (j : Int))] else []) := Lib.hid (by rw [List.take_add_one, hqk]; exact filtL_snoc _ _ _)
      have HQM := Lib.hid hqm
      have hsl : (filtL (aloneB ss (a, b)) ((placed 0 ss).take k)).length < 1000000 := by
        have h1 := filtL_length (aloneB ss (a, b)) ((placed 0 ss).take k)
        rw [List.length_take] at h1
        omega
      have C4 := Lib.hid (specAt_any ss HF.out oa cap i j s x hs1 hx1 (wr.alloc (.cells #[.int .i64 (i : Int), .int .i64 (j : Int)] 34)) (HC.out.below HPA.out.1.below (Nat.le_refl _)))
      clear hba q5 hat hqk hqm hs1 hx1
      unfold itV at C4
      go_wp2_with fail
      generalize wr.alloc (.cells #[.int .i64 (i : Int), .int .i64 (j : Int)] 34) = wA at *
      refine C4.out.mono ?_
      rintro e wB ⟨rfl, hb6⟩
      have HPB := Lib.hid (And.intro (HPA.out.1.step hb6) (And.intro (HPA.out.2.1.below hb6 HPA.out.2.1.lt) HPA.out.2.2))
      have RP5 := Lib.hid (RPB.out.below hb6 RPB.out.lt)
      have HSZ5 := Lib.hid (Nat.le_trans HPA.out.1.below.size hb6.size)
      clear g4 b0 b1 a0 a1 r0 r1 hb6
      by_cases hkd : x.kind = 1
      · have HE : Hid (filtL (aloneB ss (a, b)) ((placed 0 ss).take (k + 1)) = filtL (aloneB ss (a, b)) ((placed 0 ss).take k)) := Lib.hid (by rw [HST.out, if_neg (by rw [aloneB_decl hkd]; decide), List.append_nil])
        have d1 : (x.kind == 1) = true := by rw [hkd]; rfl
        go_wp2
        go_roundw
        case rel => exact ⟨k + 1, by go_num, by omega, by rw [HE.out]; exact HPB⟩
        case measure => simp only [intOf]; omega
      · have d1 : (x.kind == 1) = false := by simpa using hkd
        have HKD := Lib.hid hkd
        have g4 := HPB.out.1.box.cell (i := 0) (by rfl)
        have b0 := HPB.out.2.1.cell (i := 0) (v := .int .i64 a) (by rfl)
        have b1 := HPB.out.2.1.cell (i := 1) (v := .int .i64 b) (by rfl)
        have a0 := RP5.out.cell (i := 0) (v := .int .i64 (i : Int)) (by rfl)
        have a1 := RP5.out.cell (i := 1) (v := .int .i64 (j : Int)) (by rfl)
        have C5 := Lib.hid (specResolve_any ss HV.out HF.out oa cap HQM.out _ (HC.out.below HPB.out.1.below (Nat.le_refl _)))
        clear hkd
        go_wp2_with fail
        refine C5.out.mono ?_
        rintro e wC ⟨vm, rfl, hown, hb7⟩
        obtain ⟨om, cm, rfl, hA⟩ := argPlaces_of_owns hown
        have HPC := Lib.hid (And.intro (HPB.out.1.step hb7) (And.intro (HPB.out.2.1.below hb7 HPB.out.2.1.lt) HPB.out.2.2))
        have RP7 := Lib.hid (RP5.out.below hb7 RP5.out.lt)
        have HSZ7 := Lib.hid (Nat.le_trans HSZ5.out hb7.size)
        have hml := meanIt_length HV.out (i, j, x)
        have C6 := Lib.hid (l5In_any (meanIt ss (i, j, x)) om cm a b _ (by omega) hA)
        clear hown hA hb7 g4 b0 b1 a0 a1
        have b0 := HPC.out.2.1.cell (i := 0) (v := .int .i64 a) (by rfl)
        have b1 := HPC.out.2.1.cell (i := 1) (v := .int .i64 b) (by rfl)
        obtain ⟨q, hq⟩ : ∃ q, decide ((a, b) ∈ meanIt ss (i, j, x)) = q := ⟨_, rfl⟩
        rw [hq] at C6
        have HQ := Lib.hid hq
        obtain ⟨L, hL⟩ : ∃ L, (meanIt ss (i, j, x)).length = L := ⟨_, rfl⟩
        rw [hL] at C6 ⊢
        have HL := Lib.hid hL
        clear hq hL hml
        go_wp2_with fail
        refine C6.out.mono ?_
        rintro e wD ⟨rfl, hb8⟩
        have HPD := Lib.hid (And.intro (HPC.out.1.step hb8) (And.intro (HPC.out.2.1.below hb8 HPC.out.2.1.lt) HPC.out.2.2))
        have RP8 := Lib.hid (RP7.out.below hb8 RP7.out.lt)
        have HSZ8 := Lib.hid (Nat.le_trans HSZ7.out hb8.size)
        clear hb8 b0 b1
        cases q
        · have HE : Hid (filtL (aloneB ss (a, b)) ((placed 0 ss).take (k + 1)) = filtL (aloneB ss (a, b)) ((placed 0 ss).take k)) := Lib.hid (by rw [HST.out, if_neg (by rw [aloneB_not (by simpa using HQ.out)]; decide), List.append_nil])
          go_wp2
          go_roundw
          case rel => exact ⟨k + 1, by go_num, by omega, by rw [HE.out]; exact HPD⟩
          case measure => simp only [intOf]; omega
        · by_cases h1 : L = 1
          · have HE : Hid (filtL (aloneB ss (a, b)) ((placed 0 ss).take (k + 1)) = filtL (aloneB ss (a, b)) ((placed 0 ss).take k) ++ [((i : Int), (j : Int))]) := Lib.hid (by rw [HST.out, if_pos (aloneB_yes HKD.out (by simpa using HQ.out) (by rw [HL.out, h1]))])
            have d2 : ((L : Int) == 1) = true := by rw [h1]; rfl
            have a0 := RP8.out.cell (i := 0) (v := .int .i64 (i : Int)) (by rfl)
            have a1 := RP8.out.cell (i := 1) (v := .int .i64 (j : Int)) (by rfl)
            obtain ⟨v', w7, hrun, hown', hgrow, hbl⟩ := append_place_at HPD.out.1.row (i : Int) (j : Int) hsl HSZ8.out 38
            have HP7 : Hid (ItemsAt w w7 oa cap ss.length w4.heap.size v' _ (filtL (aloneB ss (a, b)) ((placed 0 ss).take (k + 1))) (plsAll (placed 0 ss)) ∧ Row w7 (w.heap.size + 1) 34 [.int .i64 a, .int .i64 b] ∧ some (w.heap.size + 1) ≠ v'.ownBlock) := Lib.hid
              ⟨by rw [HE.out]; exact HPD.out.1.snoc hown' hgrow hbl, (HPD.out.2.1.alloc _).grown hgrow HPD.out.2.2, (by
                rcases hbl with h | h
                · rw [h]; exact HPD.out.2.2
                · rw [h]; intro e; have h1 := Option.some.inj e; have h2 := HPD.out.2.1.lt; omega)⟩
            have HRUN := Lib.hid hrun
            clear hown' hgrow hbl hrun h1
            go_wp2_with (at_builtin; refine wpList_append_run rfl _ _ 38 rfl HRUN.out ?_)
            go_wp2
            go_roundw
            case rel => exact ⟨k + 1, by go_num, by omega, HP7⟩
            case measure => simp only [intOf]; omega
          · have HE : Hid (filtL (aloneB ss (a, b)) ((placed 0 ss).take (k + 1)) = filtL (aloneB ss (a, b)) ((placed 0 ss).take k)) := Lib.hid (by rw [HST.out, if_neg (by rw [aloneB_more (by rw [HL.out]; exact h1)]; decide), List.append_nil])
            have d2 : ((L : Int) == 1) = false := by simp; omega
            clear h1
            go_wp2
            go_roundw
            case rel => exact ⟨k + 1, by go_num, by omega, by rw [HE.out]; exact HPD⟩
            case measure => simp only [intOf]; omega
    · obtain rfl : k = (plsAll (placed 0 ss)).length := by omega
      have HE : Hid ((placed 0 ss).take (plsAll (placed 0 ss)).length = placed 0 ss) := Lib.hid (by rw [HLN.out, List.take_length])
      go_wp2
      go_ret
      exact ⟨_, rfl, by have := hP.out.1.row; rw [HE.out] at this; exact this, hP.out.1.below⟩
set_option maxRecDepth 100000 in
set_option maxHeartbeats 4000000 in
theorem l6Declared_any (ss : List Sc) (hf : FitsScopes ss) (oa : Option Addr) (cap : Nat) (a b : Int) (w : World) (hc : HoldsScopes w oa ss) :
    Calls Tryz.prog 18 #[.agg #[.slice oa ss.length cap], .agg #[.int .i64 a, .int .i64 b]] w fun e w' => ∃ ok, e = .returned (.bool ok) ∧ (ok = true ↔ declOk ss a b) ∧ Below w.heap.size w w' := by
  have hb0 := ((Below.refl w.heap.size w).alloc (Nat.le_refl _) (.cells #[.slice oa ss.length cap] 32)).alloc (by simp) (.cells #[.int .i64 a, .int .i64 b] 34)
  have R1 := (Row.new w [.slice oa ss.length cap] 32).alloc (.cells #[.int .i64 a, .int .i64 b] 34)
  have R2 := Row.new (w.alloc (.cells #[.slice oa ss.length cap] 32)) [.int .i64 a, .int .i64 b] 34
  rw [World.size_alloc] at R2
  have C := Lib.hid (specItemAt_any ss hf oa cap a b _ (hc.below hb0 (Nat.le_refl _)))
  have HB := Lib.hid hb0
  have g0 := R1.cell (i := 0) (v := .slice oa ss.length cap) (by rfl)
  have p0 := R2.cell (i := 0) (v := .int .i64 a) (by rfl)
  have p1 := R2.cell (i := 1) (v := .int .i64 b) (by rfl)
  clear hb0 R1 R2 hf hc
  go_enter Tryz.func18, Tryz.ntmps18
  go_wp2_with fail
  refine C.out.mono ?_
  rintro e w1 ⟨x, ok, rfl, hx, hb1⟩
  unfold itV
  have HX := Lib.hid hx
  have HB1 := Lib.hid (HB.out.trans (hb1.mono HB.out.size))
  have RX := Row.new w1 [.int .i64 x.kind, .string x.name, .int .i64 x.scope] 51
  have x0 := RX.cell (i := 0) (v := .int .i64 x.kind) (by rfl)
  have HB2 := Lib.hid (HB1.out.alloc HB1.out.size (.cells #[.int .i64 x.kind, .string x.name, .int .i64 x.scope] 51))
  clear hx hb1 g0 p0 p1 RX
  cases ok
  · have HN : Hid (¬ declOk ss a b) := Lib.hid (fun h => by
      obtain ⟨hv, y, hy, _⟩ := h
      rcases HX.out with ⟨_, _, h3⟩ | ⟨h1, _, _⟩
      · cases h3
      · exact h1 ⟨hv, by rw [hy]; rfl⟩)
    go_wp2
    go_ret
    exact ⟨false, rfl, ⟨(fun h => by cases h), fun h => absurd h HN.out⟩, HB2.out⟩
  · have HY : Hid (Valid ss ∧ itemAtP ss a b = some x) := Lib.hid (by
      rcases HX.out with ⟨h1, h2, _⟩ | ⟨_, _, h3⟩
      · exact ⟨h1, h2⟩
      · cases h3)
    by_cases hk : x.kind = 1
    · have d1 : (x.kind == 1) = true := by rw [hk]; rfl
      have HK := Lib.hid hk
      clear hk
      go_wp2
      go_ret
      exact ⟨true, rfl, ⟨fun _ => ⟨HY.out.1, x, HY.out.2, HK.out⟩, fun _ => rfl⟩, HB2.out⟩
    · have d1 : (x.kind == 1) = false := by simpa using hk
      have HK := Lib.hid hk
      clear hk
      go_wp2
      go_ret
      exact ⟨false, rfl, ⟨(fun h => by cases h), fun h => by
        obtain ⟨_, y, hy, h1⟩ := h
        rw [HY.out.2] at hy
        cases hy
        exact absurd h1 HK.out⟩, HB2.out⟩
end Go.Proofs.YtimcobenmgbciaaGreatDoor
