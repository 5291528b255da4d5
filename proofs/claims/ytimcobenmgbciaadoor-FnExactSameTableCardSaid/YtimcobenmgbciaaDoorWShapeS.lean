/-
  The walk of the given SameShape. Condition: the arguments' memory holds the graphs.
-/
import Derived.Test.YtimcobenmgbciaaDoorWShape
namespace Go.Proofs.YtimcobenmgbciaaDoor
open Go Go.RowKit
set_option maxRecDepth 100000 in
set_option maxHeartbeats 8000000 in
theorem specSameShape_any (ss tt : List Sc) (hF : Fair ss) (hG : Fair tt) (oa ob : Option Addr) (ca cb : Nat) (w : World) (hc : HoldsScopes w oa ss) (hd : HoldsScopes w ob tt) :
    Calls Tryd.prog 51 #[.agg #[.slice oa ss.length ca], .agg #[.slice ob tt.length cb]] w fun e w' => ∃ b : Bool, e = .returned (.bool b) ∧ (b = true ↔ SameSh ss tt) ∧ Below w.heap.size w w' := by
  have hb0 := ((Below.refl w.heap.size w).alloc (Nat.le_refl _) (.cells #[.slice oa ss.length ca] 25)).alloc (by simp) (.cells #[.slice ob tt.length cb] 25)
  have R1 := Lib.hid ((Row.new w [.slice oa ss.length ca] 25).alloc (.cells #[.slice ob tt.length cb] 25))
  have R2 := Row.new (w.alloc (.cells #[.slice oa ss.length ca] 25)) [.slice ob tt.length cb] 25
  rw [World.size_alloc] at R2
  have R2 := Lib.hid R2
  have C := Lib.hid (specValid_any ss oa ca _ hF.fits (hc.below hb0 (Nat.le_refl _)))
  have HB := Lib.hid hb0
  have HF := Lib.hid hF
  have HG := Lib.hid hG
  have HC := Lib.hid hc
  have HD := Lib.hid hd
  have g1 := R1.out.cell (i := 0) (v := .slice oa ss.length ca) (by rfl)
  have g2 := R2.out.cell (i := 0) (v := .slice ob tt.length cb) (by rfl)
  clear hF hG hc hd hb0
  go_enter Tryd.func51, Tryd.ntmps51
  go_wp2_with fail
  refine C.out.mono ?_
  rintro e w1 ⟨b, rfl, hv, hb1⟩
  have HV := Lib.hid hv
  have HB1 := Lib.hid (HB.out.trans (hb1.mono HB.out.size))
  have R1a := Lib.hid (R1.out.below hb1 R1.out.lt)
  have R2a := Lib.hid (R2.out.below hb1 R2.out.lt)
  have g1 := R1a.out.cell (i := 0) (v := .slice oa ss.length ca) (by rfl)
  have g2 := R2a.out.cell (i := 0) (v := .slice ob tt.length cb) (by rfl)
  clear hv hb1
  cases b
  · have HN : Hid (¬ SameSh ss tt) := Lib.hid (fun h => by have := HV.out.2 h.1; cases this)
    go_wp2
    go_ret
    exact ⟨false, rfl, ⟨fun h => (by cases h), fun h => absurd h HN.out⟩, HB1.out⟩
  · have HVV := Lib.hid (HV.out.1 rfl)
    have C2 := Lib.hid (specValid_any tt ob cb w1 HG.out.fits (HD.out.below HB1.out (Nat.le_refl _)))
    go_wp2_with fail
    refine C2.out.mono ?_
    rintro e w2 ⟨b, rfl, hv, hb2⟩
    have HV2 := Lib.hid hv
    have HB2 := Lib.hid (HB1.out.trans (hb2.mono HB1.out.size))
    have R1b := Lib.hid (R1a.out.below hb2 R1a.out.lt)
    have R2b := Lib.hid (R2a.out.below hb2 R2a.out.lt)
    have g1 := R1b.out.cell (i := 0) (v := .slice oa ss.length ca) (by rfl)
    have g2 := R2b.out.cell (i := 0) (v := .slice ob tt.length cb) (by rfl)
    clear hv hb2
    cases b
    · have HN : Hid (¬ SameSh ss tt) := Lib.hid (fun h => by have := HV2.out.2 h.2.1; cases this)
      go_wp2
      go_ret
      exact ⟨false, rfl, ⟨fun h => (by cases h), fun h => absurd h HN.out⟩, HB2.out⟩
    · have HVW := Lib.hid (HV2.out.1 rfl)
      have hss6 : ss.length ≤ 6 := HVV.out.count.2
      have htt6 : tt.length ≤ 6 := HVW.out.count.2
      have HSa : Hid (∀ s ∈ ss, s.items.length ≤ 5) := Lib.hid HVV.out.five
      have HSb : Hid (∀ s ∈ tt, s.items.length ≤ 5) := Lib.hid HVW.out.five
      have HC2 := Lib.hid (HC.out.below HB2.out (Nat.le_refl _))
      have HD2 := Lib.hid (HD.out.below HB2.out (Nat.le_refl _))
      clear HC HD C C2 R1 R2 R1a R2a HB HB1 HV HV2
      by_cases hl : ss.length = tt.length
      · have l1 : ((ss.length : Int) != (tt.length : Int)) = false := by simp [hl]
        have l2 : ((ss.length : Int) == (tt.length : Int)) = true := by simp [hl]
        have HL := Lib.hid hl
        clear hl
        go_wp2
        go_loopw [30] (fun i wr => ∃ k : Nat, i = .int .i64 k ∧ k ≤ ss.length ∧ Hid (∀ m x y, m < k → ss[m]? = some x → tt[m]? = some y → shS x = shS y) ∧ Hid (Below w2.heap.size w2 wr)) (fun i _ => ss.length - (intOf i).toNat)
        case atStart => exact ⟨0, rfl, Nat.zero_le _, Lib.hid (fun m x y hm => absurd hm (by omega)), Lib.hid (Below.refl _ _)⟩
        case round =>
          obtain ⟨k, rfl, hk, HR, HW⟩ := hrel
          by_cases hlt : k < ss.length
          · have hlt2 : k < tt.length := by have := HL.out; omega
            obtain ⟨x, hp⟩ : ∃ x, ss[k]? = some x := ⟨_, List.getElem?_eq_getElem hlt⟩
            obtain ⟨y, hp2⟩ : ∃ y, tt[k]? = some y := ⟨_, List.getElem?_eq_getElem hlt2⟩
            have HX5 : Hid (x.items.length ≤ 5) := Lib.hid (HSa.out x (List.mem_of_getElem? hp))
            have HY5 : Hid (y.items.length ≤ 5) := Lib.hid (HSb.out y (List.mem_of_getElem? hp2))
            obtain ⟨b1, f1, rfl, hb1, o1, c1, x0, x1, x2⟩ := (HC2.out.below HW.out (Nat.le_refl _)).got hp
            obtain ⟨b2, f2, rfl, hb2, o2, c2, y0, y1, y2⟩ := (HD2.out.below HW.out (Nat.le_refl _)).got hp2
            have hbA := (Below.refl wr.heap.size wr).alloc (Nat.le_refl _) (.cells #[.int .i64 x.parent, .slice o1 x.items.length c1] 118)
            have RA := Row.new wr [.int .i64 x.parent, .slice o1 x.items.length c1] 118
            have a0 := RA.cell (i := 0) (v := .int .i64 x.parent) (by rfl)
            have a1 := RA.cell (i := 1) (v := .slice o1 x.items.length c1) (by rfl)
            have y0 := cell_grow hbA y0
            have y1 := cell_grow hbA y1
            have hR2 := (R2b.out.below HW.out R2b.out.lt)
            have g2 := (hR2.below hbA hR2.lt).cell (i := 0) (v := .slice (some ⟨b2, f2, none⟩) tt.length cb) (by rfl)
            have HX2 := Lib.hid (x2.below hbA (Nat.le_refl _))
            have HY2 := Lib.hid (y2.below hbA (Nat.le_refl _))
            have HA := Lib.hid (HW.out.alloc HW.out.size (.cells #[.int .i64 x.parent, .slice o1 x.items.length c1] 118))
            have HRA := Lib.hid RA
            have HR2 := Lib.hid (hR2.below hbA hR2.lt)
            have HZ : Hid (w.heap.size + 1 < wr.heap.size) := Lib.hid hR2.lt
            have HNX : Hid (shS x = shS y → ∀ m u v, m < k + 1 → ss[m]? = some u → tt[m]? = some v → shS u = shS v) := Lib.hid (by
              intro h m u v hm hu hv
              by_cases he : m = k
              · subst he
                rw [hp] at hu
                rw [hp2] at hv
                rw [← Option.some.inj hu, ← Option.some.inj hv, h]
              · exact HR.out m u v (by omega) hu hv)
            have HBAD : Hid (shS x ≠ shS y → ¬ SameSh ss tt) := Lib.hid (by
              intro h hs
              exact h (map_get hs.2.2 hp hp2))
            have hk0 : (0 : Int) ≤ (k : Int) := by omega
            have hk1 : (k : Int) < (ss.length : Int) := by omega
            have hk2 : (k : Int) < (tt.length : Int) := by omega
            clear hp hp2 x2 y2 RA hbA hR2 hb1 hb2
            by_cases h1 : x.parent = y.parent
            · have e1 : (x.parent != y.parent) = false := by simp [h1]
              have e2 : (x.parent == y.parent) = true := by simp [h1]
              by_cases h2 : x.items.length = y.items.length
              · have e3 : ((x.items.length : Int) != (y.items.length : Int)) = false := by simp [h2]
                have e4 : ((x.items.length : Int) == (y.items.length : Int)) = true := by simp [h2]
                have HE := Lib.hid (And.intro h1 h2)
                clear h1 h2
                go_wp2
                go_quiet (fail)
                go_wp2
                have HDF : Hid (∀ (W : World) (n : Nat), World.drewN (wr.alloc (.cells #[.int .i64 x.parent, .slice o1 x.items.length c1] 118)) n = W → Below (wr.alloc (.cells #[.int .i64 x.parent, .slice o1 x.items.length c1] 118)).heap.size (wr.alloc (.cells #[.int .i64 x.parent, .slice o1 x.items.length c1] 118)) W) := Lib.hid (fun W n e => e ▸ below_drewN (Below.refl _ _) n)
                generalize hWD : World.drewN _ _ = wD
                have HDD := Lib.hid (HDF.out _ _ hWD)
                have HAD := Lib.hid (HA.out.trans (HDD.out.mono HA.out.size))
                have HR3 := Lib.hid (HR2.out.below HDD.out HR2.out.lt)
                have HX3 := Lib.hid (HX2.out.below HDD.out (Nat.le_refl _))
                have HY3 := Lib.hid (HY2.out.below HDD.out (Nat.le_refl _))
                have HY1 := Lib.hid (cell_grow HDD.out y1)
                clear hWD HDD HDF g1 g2 a0 a1 y0 y1 x0 x1 HX2 HY2 HRA HR2 R2
                go_loopw [60] (fun i wi => ∃ m : Nat, i = .int .i64 m ∧ m ≤ x.items.length ∧ Hid (∀ n u v, n < m → x.items[n]? = some u → y.items[n]? = some v → shI u = shI v) ∧ Hid (Below wD.heap.size wD wi)) (fun i _ => x.items.length - (intOf i).toNat)
                case atStart => exact ⟨0, rfl, Nat.zero_le _, Lib.hid (fun m x y hm => absurd hm (by omega)), Lib.hid (Below.refl _ _)⟩
                case round =>
                  obtain ⟨m, rfl, hm, HT, HI⟩ := hrel
                  by_cases hlt3 : m < x.items.length
                  · have hlt4 : m < y.items.length := by have := HE.out.2; omega
                    obtain ⟨u, hp⟩ : ∃ u, x.items[m]? = some u := ⟨_, List.getElem?_eq_getElem hlt3⟩
                    obtain ⟨v, hp2⟩ : ∃ v, y.items[m]? = some v := ⟨_, List.getElem?_eq_getElem hlt4⟩
                    obtain ⟨b3, f3, rfl, hb3, u0, u1, u2⟩ := (HX3.out.below HI.out (Nat.le_refl _)).got hp
                    have bU := (Below.refl wr.heap.size wr).alloc (Nat.le_refl _) (.cells #[.int .i64 u.kind, .string u.name, .int .i64 u.scope] 38)
                    have HIU := HI.out.trans (bU.mono HI.out.size)
                    obtain ⟨b4, f4, rfl, hb4, v0, v1, v2⟩ := (HY3.out.below HIU (Nat.le_refl _)).got hp2
                    have g2 := (HR3.out.below HIU HR3.out.lt).cell (i := 0) (v := .slice (some ⟨b2, f2, none⟩) tt.length cb) (by rfl)
                    have y1 := cell_grow HIU HY1.out
                    have HIV := Lib.hid (HIU.alloc HIU.size (.cells #[.int .i64 v.kind, .string v.name, .int .i64 v.scope] 38))
                    have HNY : Hid (shI u = shI v → ∀ n a b, n < m + 1 → x.items[n]? = some a → y.items[n]? = some b → shI a = shI b) := Lib.hid (by
                      intro h n a b hn ha hb
                      by_cases he : n = m
                      · subst he
                        rw [hp] at ha
                        rw [hp2] at hb
                        rw [← Option.some.inj ha, ← Option.some.inj hb, h]
                      · exact HT.out n a b (by omega) ha hb)
                    have HBB : Hid (shI u ≠ shI v → ¬ SameSh ss tt) := Lib.hid (by
                      intro h
                      exact HBAD.out (fun e => h (map_get (Prod.mk.inj e).2 hp hp2)))
                    have hx5 := HX5.out
                    have hm0 : (0 : Int) ≤ (m : Int) := by omega
                    have hm1 : (m : Int) < (x.items.length : Int) := by omega
                    have hm2 : (m : Int) < (y.items.length : Int) := by omega
                    clear hp hp2 hb3 hb4 HIU bU
                    by_cases h1 : u.kind = v.kind
                    · have d1 : (u.kind != v.kind) = false := by simp [h1]
                      have d2 : (u.kind == v.kind) = true := by simp [h1]
                      by_cases h2 : u.scope = v.scope
                      · have d3 : (u.scope != v.scope) = false := by simp [h2]
                        have d4 : (u.scope == v.scope) = true := by simp [h2]
                        have HGG := Lib.hid (HNY.out (by unfold shI; rw [h1, h2]))
                        clear h1 h2
                        go_wp2
                        go_roundw
                        case rel => exact ⟨m + 1, by go_num, by omega, HGG, HIV⟩
                        case measure => simp only [intOf]; omega
                      · have d3 : (u.scope != v.scope) = true := by simp [h2]
                        have d4 : (u.scope == v.scope) = false := by simp [h2]
                        have HN := Lib.hid (HBB.out (fun e => h2 (Prod.mk.inj e).2))
                        clear h1 h2
                        go_wp2
                        go_ret
                        exact ⟨false, rfl, ⟨fun h => (by cases h), fun h => absurd h HN.out⟩, HB2.out.trans ((HAD.out.trans (HIV.out.mono HAD.out.size)).mono HB2.out.size)⟩
                    · have d1 : (u.kind != v.kind) = true := by simp [h1]
                      have d2 : (u.kind == v.kind) = false := by simp [h1]
                      have HN := Lib.hid (HBB.out (fun e => h1 (Prod.mk.inj e).1))
                      clear h1
                      go_wp2
                      go_ret
                      exact ⟨false, rfl, ⟨fun h => (by cases h), fun h => absurd h HN.out⟩, HB2.out.trans ((HAD.out.trans (HIV.out.mono HAD.out.size)).mono HB2.out.size)⟩
                  · obtain rfl : m = x.items.length := by omega
                    have HGG := Lib.hid (HNX.out (by unfold shS; rw [HE.out.1, map_all HE.out.2 fun n a b ha hb => HT.out n a b (List.getElem?_eq_some_iff.1 ha).1 ha hb]))
                    have HZZ := Lib.hid (HAD.out.trans (HI.out.mono HAD.out.size))
                    go_wp2
                    go_roundw
                    case rel => exact ⟨k + 1, by go_num, by omega, HGG, HZZ⟩
                    case measure => simp only [intOf]; omega
              · have e3 : ((x.items.length : Int) != (y.items.length : Int)) = true := by simp; omega
                have e4 : ((x.items.length : Int) == (y.items.length : Int)) = false := by simp; omega
                have HN := Lib.hid (HBAD.out (fun e => h2 (by have := congrArg (fun p => p.2.length) e; simpa [shS] using this)))
                clear h1 h2
                go_wp2
                go_quiet (fail)
                go_wp2
                go_ret
                exact ⟨false, rfl, ⟨fun h => (by cases h), fun h => absurd h HN.out⟩, HB2.out.trans ((below_drewN HA.out _).mono HB2.out.size)⟩
            · have e1 : (x.parent != y.parent) = true := by simp [h1]
              have e2 : (x.parent == y.parent) = false := by simp [h1]
              have HN := Lib.hid (HBAD.out (fun e => h1 (Prod.mk.inj e).1))
              clear h1
              go_wp2
              go_quiet (fail)
              go_wp2
              go_ret
              exact ⟨false, rfl, ⟨fun h => (by cases h), fun h => absurd h HN.out⟩, HB2.out.trans ((below_drewN HA.out _).mono HB2.out.size)⟩
          · obtain rfl : k = ss.length := by omega
            have HS : Hid (SameSh ss tt) := Lib.hid ⟨HVV.out, HVW.out, map_all HL.out fun m u v hu hv => HR.out m u v (List.getElem?_eq_some_iff.1 hu).1 hu hv⟩
            go_wp2
            go_ret
            exact ⟨true, rfl, ⟨fun _ => HS.out, fun _ => rfl⟩, HB2.out.trans (HW.out.mono HB2.out.size)⟩
      · have l1 : ((ss.length : Int) != (tt.length : Int)) = true := by simp; omega
        have l2 : ((ss.length : Int) == (tt.length : Int)) = false := by simp; omega
        have HN : Hid (¬ SameSh ss tt) := Lib.hid (fun h => hl (by have := congrArg List.length h.2.2; simpa using this))
        clear hl
        go_wp2
        go_ret
        exact ⟨false, rfl, ⟨fun h => (by cases h), fun h => absurd h HN.out⟩, HB2.out⟩
end Go.Proofs.YtimcobenmgbciaaDoor
