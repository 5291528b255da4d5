/-
  The walk of the given l6Same: whether an item means the same when another one is removed. Conditions: the graph is valid; both graphs lie in memory.
-/
import Derived.Test.YtimcobenmgbciaaDoorWSpecItemsZ
import Derived.Test.YtimcobenmgbciaaDoorJEZ
import Derived.Test.YtimcobenmgbciaaDoorJCZ
import Derived.Deep.RegionHeld3
namespace Go.Proofs.YtimcobenmgbciaaDoor
open Go Go.RowKit
theorem aftB_nat (a b i j : Nat) : aftB (i : Int) (j : Int) (a : Int) (b : Int) = (aftN a b i j : Int) := by
  unfold aftB aftN
  by_cases h : i = a ∧ b < j
  · rw [if_pos ⟨by omega, by omega⟩, if_pos h]; omega
  · rw [if_neg (fun hh => h ⟨by omega, by omega⟩), if_neg h]
theorem aftI_B (a b : Int) (p : Int × Int) : aftI a b p = (p.1, aftB p.1 p.2 a b) := by
  unfold aftI aftB
  split <;> rfl
theorem grow6 {W W' : World} {p : Addr} {v : Value} (hb : Below W.heap.size W W') (h : W.cell? p = some v) : W'.cell? p = some v := (hb.cell (World.block_lt_of_cell? _ _ h)).trans h
theorem held5 {w w1 W : World} {p0 p1 p2 p3 p4 : Addr} {v0 v1 v2 v3 v4 : Value} (c0 : w1.cell? p0 = some v0) (c1 : w1.cell? p1 = some v1) (c2 : w1.cell? p2 = some v2) (c3 : w1.cell? p3 = some v3) (c4 : w1.cell? p4 = some v4) (B1 : Below w.heap.size w w1) (hb : Below w1.heap.size w1 W) :
    W.cell? p0 = some v0 ∧ W.cell? p1 = some v1 ∧ W.cell? p2 = some v2 ∧ W.cell? p3 = some v3 ∧ W.cell? p4 = some v4 ∧ Below w.heap.size w W ∧ Below w1.heap.size w1 W :=
  ⟨grow6 hb c0, grow6 hb c1, grow6 hb c2, grow6 hb c3, grow6 hb c4, B1.trans (hb.mono B1.size), hb⟩
theorem same_len {ss : List Sc} {a b : Nat} {q : Nat × Nat × It} (h : (meanIt ss q).length ≠ (meanIt (rmvP ss a b) (q.1, aftN a b q.1 q.2.1, q.2.2)).length) : sameB ss a b q = false := by
  unfold sameB
  rw [Bool.and_eq_false_iff]
  right
  refine decide_eq_false fun e => h ?_
  rw [← e, List.length_map]
theorem same_in {ss : List Sc} {a b : Nat} {q : Nat × Nat × It} (h : ((a : Int), (b : Int)) ∈ meanIt ss q) : sameB ss a b q = false := by
  unfold sameB
  rw [decide_eq_true h]
  rfl
set_option maxRecDepth 100000 in
set_option maxHeartbeats 8000000 in
theorem l6Same_any (ss : List Sc) (hv : Valid ss) (hF : Fair ss) (oa oh : Option Addr) (cap caph : Nat) (a b : Nat) (hb' : b < 1000) {i j : Nat} {x : It} (hq : (i, j, x) ∈ placed 0 ss) (hne : ¬ (i = a ∧ j = b)) (w : World) (hc : HoldsScopes w oa ss) (hh : HoldsScopes w oh (rmvP ss a b)) :
    Calls Tryd.prog 120 #[.agg #[.slice oa ss.length cap], .agg #[.slice oh (rmvP ss a b).length caph], .agg #[.int .i64 (i : Int), .int .i64 (j : Int)], .agg #[.int .i64 (a : Int), .int .i64 (b : Int)]] w fun e w' => e = .returned (.bool (sameB ss a b (i, j, x))) ∧ Below w.heap.size w w' := by
  have hb0 := ((((Below.refl w.heap.size w).alloc (Nat.le_refl _) (.cells #[.slice oa ss.length cap] 25)).alloc (by simp) (.cells #[.slice oh (rmvP ss a b).length caph] 25)).alloc (by simp; omega) (.cells #[.int .i64 (i : Int), .int .i64 (j : Int)] 27)).alloc (by simp; omega) (.cells #[.int .i64 (a : Int), .int .i64 (b : Int)] 27)
  have RH0 := (Row.new (w.alloc (.cells #[.slice oa ss.length cap] 25)) [.slice oh (rmvP ss a b).length caph] 25)
  have RI0 := (Row.new ((w.alloc (.cells #[.slice oa ss.length cap] 25)).alloc (.cells #[.slice oh (rmvP ss a b).length caph] 25)) [.int .i64 (i : Int), .int .i64 (j : Int)] 27)
  have RA0 := (Row.new (((w.alloc (.cells #[.slice oa ss.length cap] 25)).alloc (.cells #[.slice oh (rmvP ss a b).length caph] 25)).alloc (.cells #[.int .i64 (i : Int), .int .i64 (j : Int)] 27)) [.int .i64 (a : Int), .int .i64 (b : Int)] 27)
  have RH := Lib.hid ((RH0.alloc (.cells #[.int .i64 (i : Int), .int .i64 (j : Int)] 27)).alloc (.cells #[.int .i64 (a : Int), .int .i64 (b : Int)] 27))
  have RI := Lib.hid (RI0.alloc (.cells #[.int .i64 (a : Int), .int .i64 (b : Int)] 27))
  have RA := Lib.hid RA0
  simp only [World.size_alloc] at RH RI RA
  have C1 := Lib.hid (specResolve_any ss hv hF.fits oa cap hq _ (hc.below hb0 (Nat.le_refl _)))
  have hlt := hv.small.lt hq
  have HI : Hid ((-9223372036854775808 ≤ (j : Int) ∧ (j : Int) ≤ 9223372036854775807) ∧ (-9223372036854775808 ≤ (b : Int) ∧ (b : Int) ≤ 9223372036854775807)) := Lib.hid ⟨by have := hlt.2; dsimp only at this; omega, by omega⟩
  have HV2 := Lib.hid (Valid.rmv hv a b)
  have HF2 := Lib.hid (hF.rmv a b)
  have HQ2 := Lib.hid (placed_rmv hq hne)
  have HQ := Lib.hid hq
  have HVV := Lib.hid hv
  have HAF := Lib.hid (aftB_nat a b i j)
  have HB0 := Lib.hid hb0
  have HH := Lib.hid hh
  clear hb0 RH0 RI0 RA0 hc hlt hq hne hh hv hF
  go_enter Tryd.func120, Tryd.ntmps120
  go_wp2_with fail
  refine C1.out.mono ?_
  intro e w1 hgot
  obtain ⟨v, rfl, hown, hb1⟩ := hgot
  obtain ⟨o1, c1, rfl, hap1⟩ := argPlaces_of_owns hown
  have B1 := Lib.hid (HB0.out.trans (hb1.mono HB0.out.size))
  have A1 := Lib.hid hap1
  have RH1 := Lib.hid (RH.out.below hb1 RH.out.lt)
  have RI1 := Lib.hid (RI.out.below hb1 RI.out.lt)
  have RA1 := Lib.hid (RA.out.below hb1 RA.out.lt)
  have h0 := RH1.out.cell (i := 0) (by rfl)
  have i0 := RI1.out.cell (i := 0) (by rfl)
  have i1 := RI1.out.cell (i := 1) (by rfl)
  have a0 := RA1.out.cell (i := 0) (by rfl)
  have a1 := RA1.out.cell (i := 1) (by rfl)
  clear hb1 hown hap1
  go_wp2
  go_cut [10] (fun s10 wx => ∃ o c, s10 = .slice o (meanIt (rmvP ss a b) (i, aftN a b i j, x)).length c ∧ ArgPlaces wx o (meanIt (rmvP ss a b) (i, aftN a b i j, x)) ∧ Below w1.heap.size w1 wx)
  case first =>
      go_region_held3 (fun w' => w'.cell? ⟨w.heap.size + 1, 0, none⟩ = some (.slice oh (rmvP ss a b).length caph) ∧ w'.cell? ⟨w.heap.size + 1 + 1, 0, none⟩ = some (.int .i64 (i : Int)) ∧ w'.cell? ⟨w.heap.size + 1 + 1, 1, none⟩ = some (.int .i64 (j : Int)) ∧ w'.cell? ⟨w.heap.size + 1 + 1 + 1, 0, none⟩ = some (.int .i64 (a : Int)) ∧ w'.cell? ⟨w.heap.size + 1 + 1 + 1, 1, none⟩ = some (.int .i64 (b : Int)) ∧ Below w.heap.size w w' ∧ Below w1.heap.size w1 w')
        (first
          | exact held5 h0 i0 i1 a0 a1 B1.out (Below.refl _ _)
          | exact held5 h0 i0 i1 a0 a1 B1.out (Below.refl _ _).drew
          | exact held5 h0 i0 i1 a0 a1 B1.out hBa
          | exact held5 h0 i0 i1 a0 a1 B1.out hBr
          | exact held5 h0 i0 i1 a0 a1 B1.out hBa.drew)
        (first
          | (go_at_call 156; refine (l6After_any (i : Int) (j : Int) (a : Int) (b : Int) HI.out.1 HI.out.2 _).mono ?_; rintro e wa ⟨rfl, hba⟩; rw [HAF.out]; have hBa := Below.trans (show Below w1.heap.size w1 _ from (And.right (And.right (And.right (And.right (And.right (And.right (by assumption)))))))) (hba.mono (Below.size (And.right (And.right (And.right (And.right (And.right (And.right (by assumption))))))))))
          | (go_at_call 58; refine (specResolve_any (rmvP ss a b) HV2.out HF2.out.fits oh caph HQ2.out _ (HH.out.below (And.left (And.right (And.right (And.right (And.right (And.right (by assumption))))))) (Nat.le_refl _))).mono ?_; intro e wr2 hgot; obtain ⟨v, rfl, hown, hbr⟩ := hgot; obtain ⟨o2, c2, rfl, hap⟩ := argPlaces_of_owns hown; have hBr := Below.trans (show Below w1.heap.size w1 _ from (And.right (And.right (And.right (And.right (And.right (And.right (by assumption)))))))) (hbr.mono (Below.size (And.right (And.right (And.right (And.right (And.right (And.right (by assumption)))))))))))
      all_goals go_wp2
      all_goals go_meet
      all_goals first
        | exact ⟨o2, c2, rfl, hap, hBr⟩
  case rest =>
    obtain ⟨o2, c2, rfl, hap2, hbc⟩ := hcut
    have B2 := Lib.hid (B1.out.trans (hbc.mono B1.out.size))
    have A12 := Lib.hid (A1.out.below hbc)
    have A22 := Lib.hid hap2
    have RA2 := Lib.hid (RA1.out.below hbc RA1.out.lt)
    have a0 := RA2.out.cell (i := 0) (by rfl)
    have a1 := RA2.out.cell (i := 1) (by rfl)
    have HL1 := meanIt_length HVV.out (i, j, x)
    have HL2 := meanIt_length HV2.out (i, aftN a b i j, x)
    have HP1 := Lib.hid (meanIt_isPlace HQ.out)
    have SL := Lib.hid (same_len (ss := ss) (a := a) (b := b) (q := (i, j, x)))
    have SI := Lib.hid (same_in (ss := ss) (a := a) (b := b) (q := (i, j, x)))
    have SD : Hid (sameB ss a b (i, j, x) = (!decide (((a : Int), (b : Int)) ∈ meanIt ss (i, j, x)) && decide ((meanIt ss (i, j, x)).map (aftI (a : Int) (b : Int)) = meanIt (rmvP ss a b) (i, aftN a b i j, x)))) := Lib.hid rfl
    clear hbc hap2 h0 i0 i1
    dsimp only at SL SI
    obtain ⟨sb, hsb⟩ : ∃ sb, sameB ss a b (i, j, x) = sb := ⟨_, rfl⟩
    rw [hsb] at SL SI SD
    have HSB := Lib.hid hsb
    clear hsb
    generalize meanIt (rmvP ss a b) (i, aftN a b i j, x) = aft at *
    generalize meanIt ss (i, j, x) = bef at *
    by_cases hl : bef.length = aft.length
    · have l1 : (((bef.length : Nat) : Int) != ((aft.length : Nat) : Int)) = false := by simp [hl]
      have l2 : (((bef.length : Nat) : Int) == ((aft.length : Nat) : Int)) = true := by simp [hl]
      have HL := Lib.hid hl
      clear hl
      go_wp2_with fail
      refine (l5In_any bef o1 c1 (a : Int) (b : Int) _ (by omega) A12.out).mono ?_
      rintro e w3 ⟨rfl, hb3⟩
      have B3 := Lib.hid (B2.out.trans (hb3.mono B2.out.size))
      have A13 := Lib.hid (A12.out.below hb3)
      have A23 := Lib.hid (A22.out.below hb3)
      have RA3 := Lib.hid (RA2.out.below hb3 RA2.out.lt)
      clear hb3 a0 a1
      by_cases hin : ((a : Int), (b : Int)) ∈ bef
      · have HS := Lib.hid (SI.out hin)
        rw [decide_eq_true hin]
        go_wp2
        go_ret
        exact ⟨by rw [HSB.out, HS.out] <;> rfl, B3.out⟩
      · rw [decide_eq_false hin]
        have SE : Hid (sb = decide (bef.map (aftI (a : Int) (b : Int)) = aft)) := Lib.hid (by rw [SD.out, decide_eq_false hin]; rfl)
        clear hin
        go_wp2
        go_loopw [33] (fun i' wr => ∃ k : Nat, i' = .int .i64 k ∧ k ≤ bef.length ∧ Hid (∀ m, m < k → (bef[m]?).map (aftI (a : Int) (b : Int)) = aft[m]?) ∧ Hid (Below w3.heap.size w3 wr)) (fun i' _ => bef.length - (intOf i').toNat)
        case atStart => exact ⟨0, rfl, Nat.zero_le _, Lib.hid (fun m hm => absurd hm (by omega)), Lib.hid (Below.refl _ _)⟩
        case round =>
          obtain ⟨k, rfl, hk, HR, HW⟩ := hrel
          by_cases hlt : k < bef.length
          · have hlt2 : k < aft.length := by have := HL.out; omega
            obtain ⟨⟨c, d⟩, hp⟩ : ∃ p, bef[k]? = some p := ⟨_, List.getElem?_eq_getElem hlt⟩
            obtain ⟨⟨e0, e1⟩, hp2⟩ : ∃ p, aft[k]? = some p := ⟨_, List.getElem?_eq_getElem hlt2⟩
            obtain ⟨b1, f1, rfl, hb1, q1⟩ := (A13.out.below HW.out).at (by omega)
            obtain ⟨b2, f2, rfl, hb2, q2⟩ := (A23.out.below HW.out).at (by omega)
            obtain ⟨x0, x1⟩ := q1 k _ hp
            obtain ⟨y0', y1'⟩ := q2 k _ hp2
            have HCD : Hid (-9223372036854775808 ≤ d ∧ d ≤ 9223372036854775807) := Lib.hid (by
              obtain ⟨ii, jj, cc, xx, he, hs1, hs2⟩ := HP1.out _ (List.mem_of_getElem? hp)
              have h1 := (Prod.mk.inj he).2
              have h2 := HVV.out.small.items cc (List.mem_of_getElem? hs1)
              have h3 := (List.getElem?_eq_some_iff.1 hs2).1
              omega)
            obtain ⟨z, hz⟩ : ∃ z, aftB c d (a : Int) (b : Int) = z := ⟨_, rfl⟩
            have HZ := Lib.hid hz
            have HAI : aftI (a : Int) (b : Int) (c, d) = (c, z) := by rw [aftI_B, hz]
            have HNX : Hid ((c, z) = (e0, e1) → ∀ m, m < k + 1 → (bef[m]?).map (aftI (a : Int) (b : Int)) = aft[m]?) := Lib.hid (by
              intro h m hm
              by_cases he : m = k
              · subst he
                rw [hp, hp2, Option.map_some, HAI, h]
              · exact HR.out m (by omega))
            have HBAD : Hid ((c, z) ≠ (e0, e1) → sb = false) := Lib.hid (by
              intro h
              rw [SE.out]
              refine decide_eq_false fun e => h ?_
              have h1 := congrArg (fun l => l[k]?) e
              try dsimp only at h1
              rw [List.getElem?_map, hp, hp2, Option.map_some, HAI] at h1
              exact Option.some.inj h1)
            have hbP := (Below.refl wr.heap.size wr).alloc (Nat.le_refl _) (.cells #[.int .i64 c, .int .i64 d] 27)
            have RQ := Lib.hid (Row.new wr [.int .i64 c, .int .i64 d] 27)
            have XP := Lib.hid (HW.out.trans (hbP.mono HW.out.size))
            have RA4 := Lib.hid (RA3.out.below XP.out RA3.out.lt)
            have y0 := grow6 hbP y0'
            have y1 := grow6 hbP y1'
            have q0 := RQ.out.cell (i := 0) (by rfl)
            have q1' := RQ.out.cell (i := 1) (by rfl)
            have a0 := RA4.out.cell (i := 0) (by rfl)
            have a1 := RA4.out.cell (i := 1) (by rfl)
            dsimp only at x0 x1 y0 y1
            clear hp hp2 q1 q2 hb1 hb2 hz HAI y0' y1' hbP
            by_cases h1 : c = e0
            · subst h1
              by_cases h2 : z = e1
              · subst h2
                have HG := Lib.hid (HNX.out rfl)
                go_wp2
                generalize wr.alloc (.cells #[.int .i64 c, .int .i64 d] 27) = wx at *
                refine wp_region_kept (S := fun w' => w'.cell? ⟨wr.heap.size, 0, none⟩ = some (.int .i64 c) ∧ w'.cell? ⟨wr.heap.size, 1, none⟩ = some (.int .i64 d) ∧ w'.cell? ⟨w.heap.size + 1 + 1 + 1, 0, none⟩ = some (.int .i64 (a : Int)) ∧ w'.cell? ⟨w.heap.size + 1 + 1 + 1, 1, none⟩ = some (.int .i64 (b : Int)) ∧ w'.cell? ⟨b2, f2 + k * 2, none⟩ = some (.int .i64 c) ∧ w'.cell? ⟨b2, f2 + k * 2 + 1, none⟩ = some (.int .i64 z)) 20 (by kernel_rfl) ?_
                have hS0 := And.intro (cell_drew q0) (And.intro (cell_drew q1') (And.intro (cell_drew a0) (And.intro (cell_drew a1) (And.intro (cell_drew y0) (cell_drew y1)))))
                refine KeptAny.take (i := 0) (v := ?_) (by kernel_rfl) rfl rfl (by kernel_rfl) (by kernel_rfl) (by kernel_rfl) (fun _ _ _ h => h) (by rfl) (fun w' hw' => ?_) (fun _ => rfl) hS0 ?_
                rotate_left
                · (obtain ⟨g0, g1, g2, g3, g4, g5⟩ := hw'; go_simp; try with_reducible rfl)
                refine KeptAny.take (i := 1) (v := ?_) (by kernel_rfl) rfl rfl (by kernel_rfl) (by kernel_rfl) (by kernel_rfl) (fun _ _ _ h => h) (by rfl) (fun w' hw' => ?_) (fun _ => rfl) hS0 ?_
                rotate_left
                · (obtain ⟨g0, g1, g2, g3, g4, g5⟩ := hw'; go_simp; try with_reducible rfl)
                refine KeptAny.take (i := 3) (v := ?_) (by kernel_rfl) rfl rfl (by kernel_rfl) (by kernel_rfl) (by kernel_rfl) (fun _ _ _ h => h) (by rfl) (fun w' hw' => ?_) (fun _ => rfl) hS0 ?_
                rotate_left
                · (obtain ⟨g0, g1, g2, g3, g4, g5⟩ := hw'; go_simp; try with_reducible rfl)
                refine KeptAny.take (i := 4) (v := ?_) (by kernel_rfl) rfl rfl (by kernel_rfl) (by kernel_rfl) (by kernel_rfl) (fun _ _ _ h => h) (by rfl) (fun w' hw' => ?_) (fun _ => rfl) hS0 ?_
                rotate_left
                · (obtain ⟨g0, g1, g2, g3, g4, g5⟩ := hw'; go_simp; try with_reducible rfl)
                refine KeptAny.take (i := 5) (v := ?_) (by kernel_rfl) rfl rfl (by kernel_rfl) (by kernel_rfl) (by kernel_rfl) (fun _ _ _ h => h) (by rfl) (fun w' hw' => ?_) (fun _ => rfl) hS0 ?_
                rotate_left
                · (obtain ⟨g0, g1, g2, g3, g4, g5⟩ := hw'; go_simp; try with_reducible rfl)
                refine KeptAny.take (i := 6) (v := ?_) (by kernel_rfl) rfl rfl (by kernel_rfl) (by kernel_rfl) (by kernel_rfl) (fun _ _ _ h => h) (by rfl) (fun w' hw' => ?_) (fun _ => rfl) hS0 ?_
                rotate_left
                · (obtain ⟨g0, g1, g2, g3, g4, g5⟩ := hw'; go_simp; try with_reducible rfl)
                have HD0 : Hid (Below wx.heap.size wx wx.drew) := Lib.hid ((Below.refl _ _).drew)
                have HS0 := Lib.hid hS0
                clear hS0 q0 q1' a0 a1 y0 y1
                refine KeptAny.one (i := 2) (by kernel_rfl) rfl (by rfl) (fun K hK => ?_)
                go_simp
                refine ⟨trivial, ?_⟩
                refine ((callsIn_wide (n := 5)).2 (l6After_any c d (a : Int) (b : Int) HCD.out HI.out.2 _)).mono ?_
                rintro e wa ⟨rfl, hba⟩
                rw [HZ.out]
                have HD1 := Lib.hid (HD0.out.trans (hba.mono HD0.out.size))
                have HSa := Lib.hid (And.intro (cell_grow hba HS0.out.1) (And.intro (cell_grow hba HS0.out.2.1) (And.intro (cell_grow hba HS0.out.2.2.1) (And.intro (cell_grow hba HS0.out.2.2.2.1) (And.intro (cell_grow hba HS0.out.2.2.2.2.1) (cell_grow hba HS0.out.2.2.2.2.2))))))
                clear hba
                refine hK.out _ _ HSa.out (fun _ => ?_)
                clear hK
                refine KeptAny.one (i := 7) (by kernel_rfl) rfl (by rfl) (fun K hK => ?_)
                go_simp
                refine hK.out _ _ HSa.out (fun _ => ?_)
                clear hK
                refine KeptAny.done (by kernel_rfl) ?_ _
                go_wp2
                go_roundw
                case rel => exact ⟨k + 1, by go_num, by omega, HG, Lib.hid (XP.out.trans (HD1.out.mono XP.out.size))⟩
                case measure => simp only [intOf]; omega
              · have HF := Lib.hid (HBAD.out (fun e => h2 (Prod.mk.inj e).2))
                have e1' : (z == e1) = false := by simpa using h2
                go_wp2
                generalize wr.alloc (.cells #[.int .i64 c, .int .i64 d] 27) = wx at *
                refine wp_region_kept (S := fun w' => w'.cell? ⟨wr.heap.size, 0, none⟩ = some (.int .i64 c) ∧ w'.cell? ⟨wr.heap.size, 1, none⟩ = some (.int .i64 d) ∧ w'.cell? ⟨w.heap.size + 1 + 1 + 1, 0, none⟩ = some (.int .i64 (a : Int)) ∧ w'.cell? ⟨w.heap.size + 1 + 1 + 1, 1, none⟩ = some (.int .i64 (b : Int)) ∧ w'.cell? ⟨b2, f2 + k * 2, none⟩ = some (.int .i64 c) ∧ w'.cell? ⟨b2, f2 + k * 2 + 1, none⟩ = some (.int .i64 e1)) 20 (by kernel_rfl) ?_
                have hS0 := And.intro (cell_drew q0) (And.intro (cell_drew q1') (And.intro (cell_drew a0) (And.intro (cell_drew a1) (And.intro (cell_drew y0) (cell_drew y1)))))
                refine KeptAny.take (i := 0) (v := ?_) (by kernel_rfl) rfl rfl (by kernel_rfl) (by kernel_rfl) (by kernel_rfl) (fun _ _ _ h => h) (by rfl) (fun w' hw' => ?_) (fun _ => rfl) hS0 ?_
                rotate_left
                · (obtain ⟨g0, g1, g2, g3, g4, g5⟩ := hw'; go_simp; try with_reducible rfl)
                refine KeptAny.take (i := 1) (v := ?_) (by kernel_rfl) rfl rfl (by kernel_rfl) (by kernel_rfl) (by kernel_rfl) (fun _ _ _ h => h) (by rfl) (fun w' hw' => ?_) (fun _ => rfl) hS0 ?_
                rotate_left
                · (obtain ⟨g0, g1, g2, g3, g4, g5⟩ := hw'; go_simp; try with_reducible rfl)
                refine KeptAny.take (i := 3) (v := ?_) (by kernel_rfl) rfl rfl (by kernel_rfl) (by kernel_rfl) (by kernel_rfl) (fun _ _ _ h => h) (by rfl) (fun w' hw' => ?_) (fun _ => rfl) hS0 ?_
                rotate_left
                · (obtain ⟨g0, g1, g2, g3, g4, g5⟩ := hw'; go_simp; try with_reducible rfl)
                refine KeptAny.take (i := 4) (v := ?_) (by kernel_rfl) rfl rfl (by kernel_rfl) (by kernel_rfl) (by kernel_rfl) (fun _ _ _ h => h) (by rfl) (fun w' hw' => ?_) (fun _ => rfl) hS0 ?_
                rotate_left
                · (obtain ⟨g0, g1, g2, g3, g4, g5⟩ := hw'; go_simp; try with_reducible rfl)
                refine KeptAny.take (i := 5) (v := ?_) (by kernel_rfl) rfl rfl (by kernel_rfl) (by kernel_rfl) (by kernel_rfl) (fun _ _ _ h => h) (by rfl) (fun w' hw' => ?_) (fun _ => rfl) hS0 ?_
                rotate_left
                · (obtain ⟨g0, g1, g2, g3, g4, g5⟩ := hw'; go_simp; try with_reducible rfl)
                refine KeptAny.take (i := 6) (v := ?_) (by kernel_rfl) rfl rfl (by kernel_rfl) (by kernel_rfl) (by kernel_rfl) (fun _ _ _ h => h) (by rfl) (fun w' hw' => ?_) (fun _ => rfl) hS0 ?_
                rotate_left
                · (obtain ⟨g0, g1, g2, g3, g4, g5⟩ := hw'; go_simp; try with_reducible rfl)
                have HD0 : Hid (Below wx.heap.size wx wx.drew) := Lib.hid ((Below.refl _ _).drew)
                have HS0 := Lib.hid hS0
                clear hS0 q0 q1' a0 a1 y0 y1
                refine KeptAny.one (i := 2) (by kernel_rfl) rfl (by rfl) (fun K hK => ?_)
                go_simp
                refine ⟨trivial, ?_⟩
                refine ((callsIn_wide (n := 5)).2 (l6After_any c d (a : Int) (b : Int) HCD.out HI.out.2 _)).mono ?_
                rintro e wa ⟨rfl, hba⟩
                rw [HZ.out]
                have HD1 := Lib.hid (HD0.out.trans (hba.mono HD0.out.size))
                have HSa := Lib.hid (And.intro (cell_grow hba HS0.out.1) (And.intro (cell_grow hba HS0.out.2.1) (And.intro (cell_grow hba HS0.out.2.2.1) (And.intro (cell_grow hba HS0.out.2.2.2.1) (And.intro (cell_grow hba HS0.out.2.2.2.2.1) (cell_grow hba HS0.out.2.2.2.2.2))))))
                clear hba
                refine hK.out _ _ HSa.out (fun _ => ?_)
                clear hK
                refine KeptAny.one (i := 7) (by kernel_rfl) rfl (by rfl) (fun K hK => ?_)
                go_simp
                refine hK.out _ _ HSa.out (fun _ => ?_)
                clear hK
                refine KeptAny.done (by kernel_rfl) ?_ _
                go_wp2
                go_ret
                exact ⟨by rw [HSB.out, HF.out] <;> rfl, B3.out.trans ((XP.out.trans (HD1.out.mono XP.out.size)).mono B3.out.size)⟩
            · have HF := Lib.hid (HBAD.out (fun e => h1 (Prod.mk.inj e).1))
              have e1' : (c == e0) = false := by simpa using h1
              go_wp2
              generalize wr.alloc (.cells #[.int .i64 c, .int .i64 d] 27) = wx at *
              refine wp_region_kept (S := fun w' => w'.cell? ⟨wr.heap.size, 0, none⟩ = some (.int .i64 c) ∧ w'.cell? ⟨wr.heap.size, 1, none⟩ = some (.int .i64 d) ∧ w'.cell? ⟨w.heap.size + 1 + 1 + 1, 0, none⟩ = some (.int .i64 (a : Int)) ∧ w'.cell? ⟨w.heap.size + 1 + 1 + 1, 1, none⟩ = some (.int .i64 (b : Int)) ∧ w'.cell? ⟨b2, f2 + k * 2, none⟩ = some (.int .i64 e0) ∧ w'.cell? ⟨b2, f2 + k * 2 + 1, none⟩ = some (.int .i64 e1)) 20 (by kernel_rfl) ?_
              have hS0 := And.intro (cell_drew q0) (And.intro (cell_drew q1') (And.intro (cell_drew a0) (And.intro (cell_drew a1) (And.intro (cell_drew y0) (cell_drew y1)))))
              refine KeptAny.take (i := 0) (v := ?_) (by kernel_rfl) rfl rfl (by kernel_rfl) (by kernel_rfl) (by kernel_rfl) (fun _ _ _ h => h) (by rfl) (fun w' hw' => ?_) (fun _ => rfl) hS0 ?_
              rotate_left
              · (obtain ⟨g0, g1, g2, g3, g4, g5⟩ := hw'; go_simp; try with_reducible rfl)
              refine KeptAny.take (i := 1) (v := ?_) (by kernel_rfl) rfl rfl (by kernel_rfl) (by kernel_rfl) (by kernel_rfl) (fun _ _ _ h => h) (by rfl) (fun w' hw' => ?_) (fun _ => rfl) hS0 ?_
              rotate_left
              · (obtain ⟨g0, g1, g2, g3, g4, g5⟩ := hw'; go_simp; try with_reducible rfl)
              refine KeptAny.take (i := 3) (v := ?_) (by kernel_rfl) rfl rfl (by kernel_rfl) (by kernel_rfl) (by kernel_rfl) (fun _ _ _ h => h) (by rfl) (fun w' hw' => ?_) (fun _ => rfl) hS0 ?_
              rotate_left
              · (obtain ⟨g0, g1, g2, g3, g4, g5⟩ := hw'; go_simp; try with_reducible rfl)
              refine KeptAny.take (i := 4) (v := ?_) (by kernel_rfl) rfl rfl (by kernel_rfl) (by kernel_rfl) (by kernel_rfl) (fun _ _ _ h => h) (by rfl) (fun w' hw' => ?_) (fun _ => rfl) hS0 ?_
              rotate_left
              · (obtain ⟨g0, g1, g2, g3, g4, g5⟩ := hw'; go_simp; try with_reducible rfl)
              refine KeptAny.take (i := 5) (v := ?_) (by kernel_rfl) rfl rfl (by kernel_rfl) (by kernel_rfl) (by kernel_rfl) (fun _ _ _ h => h) (by rfl) (fun w' hw' => ?_) (fun _ => rfl) hS0 ?_
              rotate_left
              · (obtain ⟨g0, g1, g2, g3, g4, g5⟩ := hw'; go_simp; try with_reducible rfl)
              refine KeptAny.take (i := 6) (v := ?_) (by kernel_rfl) rfl rfl (by kernel_rfl) (by kernel_rfl) (by kernel_rfl) (fun _ _ _ h => h) (by rfl) (fun w' hw' => ?_) (fun _ => rfl) hS0 ?_
              rotate_left
              · (obtain ⟨g0, g1, g2, g3, g4, g5⟩ := hw'; go_simp; try with_reducible rfl)
              have HD0 : Hid (Below wx.heap.size wx wx.drew) := Lib.hid ((Below.refl _ _).drew)
              have HS0 := Lib.hid hS0
              clear hS0 q0 q1' a0 a1 y0 y1
              refine KeptAny.one (i := 2) (by kernel_rfl) rfl (by rfl) (fun K hK => ?_)
              go_simp
              refine ⟨trivial, ?_⟩
              refine ((callsIn_wide (n := 5)).2 (l6After_any c d (a : Int) (b : Int) HCD.out HI.out.2 _)).mono ?_
              rintro e wa ⟨rfl, hba⟩
              rw [HZ.out]
              have HD1 := Lib.hid (HD0.out.trans (hba.mono HD0.out.size))
              have HSa := Lib.hid (And.intro (cell_grow hba HS0.out.1) (And.intro (cell_grow hba HS0.out.2.1) (And.intro (cell_grow hba HS0.out.2.2.1) (And.intro (cell_grow hba HS0.out.2.2.2.1) (And.intro (cell_grow hba HS0.out.2.2.2.2.1) (cell_grow hba HS0.out.2.2.2.2.2))))))
              clear hba
              refine hK.out _ _ HSa.out (fun _ => ?_)
              clear hK
              refine KeptAny.one (i := 7) (by kernel_rfl) rfl (by rfl) (fun K hK => ?_)
              go_simp
              refine hK.out _ _ HSa.out (fun _ => ?_)
              clear hK
              refine KeptAny.done (by kernel_rfl) ?_ _
              go_wp2
              go_ret
              exact ⟨by rw [HSB.out, HF.out] <;> rfl, B3.out.trans ((XP.out.trans (HD1.out.mono XP.out.size)).mono B3.out.size)⟩
          · obtain rfl : k = bef.length := by omega
            have HS : Hid (sb = true) := Lib.hid (by
              rw [SE.out]
              refine decide_eq_true (List.ext_getElem? fun m => ?_)
              rw [List.getElem?_map]
              by_cases hm : m < bef.length
              · exact HR.out m hm
              · rw [List.getElem?_eq_none (by omega), List.getElem?_eq_none (by have := HL.out; omega)]; rfl)
            go_wp2
            go_ret
            exact ⟨by rw [HSB.out, HS.out] <;> rfl, B3.out.trans (HW.out.mono B3.out.size)⟩
    · have hl2 : ((bef.length : Int) == (aft.length : Int)) = false := by simp; omega
      have HS := Lib.hid (SL.out hl)
      go_wp2
      go_ret
      exact ⟨by rw [HSB.out, HS.out] <;> rfl, B2.out⟩
end Go.Proofs.YtimcobenmgbciaaDoor
