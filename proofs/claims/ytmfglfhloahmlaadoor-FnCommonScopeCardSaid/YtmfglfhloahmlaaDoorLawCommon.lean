/-
  The walk of the law FnCommonScope: at every argument it returns true, and only new memory is written. Conditions: the argument's memory holds bytes; the package-level errors hold errors.
-/
import Derived.Test.YtmfglfhloahmlaaDoorLawPls
import Derived.Test.YtmfglfhloahmlaaDoorWCommon
import Derived.Test.YtmfglfhloahmlaaDoorWDrawCommon
import Derived.Test.YtmfglfhloahmlaaDoorCountP
import Derived.ChangeSame
import Derived.ProofKit
import Derived.OpenShut
namespace Go.Proofs.YtmfglfhloahmlaaDoor
open Go Go.RowKit Sg
theorem commonR.sym {ss : List Sc} {a b z : Int} (h : commonR ss a b z) : commonR ss b a z := by
  rcases h with ⟨h1, h2⟩ | ⟨⟨h1, h2⟩, h3⟩
  · exact .inl ⟨fun h => h1 ⟨h.2, h.1⟩, h2⟩
  · have k1 := h1.2
    have k2 := h2.2
    exact .inr ⟨⟨h2, h1⟩, by rw [h3, common_sym h1.1.climbs (by omega) (by omega)]⟩
set_option maxRecDepth 100000 in
set_option maxHeartbeats 4000000 in
theorem lawCommonScope {w : World} {oa : Option Addr} {len cap : Nat} (h : HoldsBytes w oa len) (hlc : len ≤ cap) (hE : NodeErrs w) :
    Calls Tryd.prog 13 #[.slice oa len cap] w fun e w' => e = .returned (.bool true) ∧ Below w.heap.size w w' := by
  by_cases hn : (1048576 : Int) < (len : Int)
  · clear h hE
    go_enter Tryd.func13, Tryd.ntmps13
    go_wp2
    go_ret
    exact ⟨rfl, Below.refl _ _⟩
  · have C := Lib.hid (drawCommon_any h (by omega) hlc)
    have HE := Lib.hid hE
    clear h hE hlc
    go_enter Tryd.func13, Tryd.ntmps13
    go_wp2_with fail
    refine C.out.mono ?_
    rintro e w1 ⟨ss, ov, cv, a, b, rfl, hh, hl, haI, hbI, hb1⟩
    have HF := Lib.hid (hl.fair (by omega))
    have hbA := (Below.refl w1.heap.size w1).alloc (Nat.le_refl _) (.cells #[.slice ov ss.length cv] 31)
    have HA := Lib.hid (belowS hb1 hbA)
    have HC := Lib.hid (hh.below hbA (Nat.le_refl _))
    have RB := Lib.hid (Row.new w1 [.slice ov ss.length cv] 31)
    clear hh hl haI hbI hb1 hbA
    go_wp2_with fail
    refine (implCommon_any ss HF.out ov cv a b _ HC.out (HE.out.at HA.out)).mono ?_
    rintro e w2 ⟨z, rfl, hz, hb2⟩
    have Z := Lib.hid hz
    have X2 := Lib.hid hb2
    have r2 := (RB.out.below X2.out RB.out.lt).cell (i := 0) (v := .slice ov ss.length cv) (by rfl)
    have hzz : (z != z) = false := by simp
    clear hz hb2
    go_wp2_with fail
    refine (specCommon_any ss HF.out.fits ov cv a b _ (HC.out.below X2.out (Nat.le_refl _))).mono ?_
    rintro e w3 ⟨z2, rfl, hz2, hb3⟩
    obtain rfl := hz2.same Z.out
    have X3 := Lib.hid (belowS X2.out hb3)
    have r3 := (RB.out.below X3.out RB.out.lt).cell (i := 0) (v := .slice ov ss.length cv) (by rfl)
    clear hz2 hb3 r2
    go_wp2_with fail
    refine (implCommon_any ss HF.out ov cv b a _ (HC.out.below X3.out (Nat.le_refl _)) ((HE.out.at HA.out).at X3.out)).mono ?_
    rintro e w4 ⟨z3, rfl, hz3, hb4⟩
    obtain rfl := hz3.same Z.out.sym
    have X4 := Lib.hid (belowS X3.out hb4)
    have r4 := (RB.out.below X4.out RB.out.lt).cell (i := 0) (v := .slice ov ss.length cv) (by rfl)
    clear hz3 hb4 r3
    by_cases hneg : z3 < 0
    · have hz1 : z3 = -1 := by
        rcases Z.out with ⟨_, h2⟩ | ⟨_, h2⟩
        · exact h2
        · omega
      have XE := Lib.hid (belowS HA.out X4.out)
      subst hz1
      go_wp2
      go_ret
      exact ⟨rfl, XE.out⟩
    · have HS : Hid ((HasScope ss a ∧ HasScope ss b) ∧ z3 = (commonP ss a.toNat b.toNat : Int)) := Lib.hid (by
        rcases Z.out with ⟨_, h2⟩ | h2
        · omega
        · exact h2)
      have hva := HS.out.1.1
      have hvb := HS.out.1.2
      have HCL := Lib.hid hva.1.climbs
      have hal : a.toNat < ss.length := by have := hva.2; omega
      have hbl : b.toNat < ss.length := by have := hvb.2; omega
      have HPC := Lib.hid (pairs_common HCL.out hal hbl)
      have HZC : Hid (HasScope ss z3) := Lib.hid (by
        have h1 := chain_le HCL.out _ _ (common_mem HCL.out hal hbl).1
        have h2 := HS.out.2
        exact ⟨hva.1, by omega, by omega⟩)
      have hlx : (chainP ss a.toNat).length ≤ 1000 := by
        have h1 := chain_length HCL.out a.toNat
        have h3 := hva.1.count.2
        omega
      have hly : (chainP ss b.toNat).length ≤ 1000 := by
        have h1 := chain_length HCL.out b.toNat
        have h3 := hva.1.count.2
        omega
      clear hva hvb
      go_wp2_with fail
      refine (implChain_any ss HF.out ov cv a _ (HC.out.below X4.out (Nat.le_refl _)) ((HE.out.at HA.out).at X4.out)).mono ?_
      rintro e w5 (⟨h1, -⟩ | ⟨-, vx, rfl, hrx, hb5⟩)
      · exact absurd HS.out.1.1 h1
      obtain ⟨ox, cx, rfl, hix⟩ := holdsInts_of_owns hrx
      have IX := Lib.hid hix
      have X5 := Lib.hid (belowS X4.out hb5)
      have r5 := (RB.out.below X5.out RB.out.lt).cell (i := 0) (v := .slice ov ss.length cv) (by rfl)
      clear hrx hix hb5 r4
      go_wp2_with fail
      refine (implChain_any ss HF.out ov cv b _ (HC.out.below X5.out (Nat.le_refl _)) ((HE.out.at HA.out).at X5.out)).mono ?_
      rintro e w6 (⟨h1, -⟩ | ⟨-, vy, rfl, hry, hb6⟩)
      · exact absurd HS.out.1.2 h1
      obtain ⟨oy, cy, rfl, hiy⟩ := holdsInts_of_owns hry
      have IY := Lib.hid hiy
      have IX6 := Lib.hid (IX.out.below hb6)
      have X6 := Lib.hid (belowS X5.out hb6)
      have HNX : Hid ((natInts (chainP ss a.toNat)).length = (chainP ss a.toNat).length) := Lib.hid (natInts_length _)
      have HNY : Hid ((natInts (chainP ss b.toNat)).length = (chainP ss b.toNat).length) := Lib.hid (natInts_length _)
      have hlx2 : (natInts (chainP ss a.toNat)).length ≤ 1000 := by rw [natInts_length]; exact hlx
      have hly2 : (natInts (chainP ss b.toNat)).length ≤ 1000 := by rw [natInts_length]; exact hly
      have HNB : Hid (∀ k, pairs ((chainP ss a.toNat).take k) (chainP ss b.toNat) ≤ 1000 * 1000) := Lib.hid (fun k => pairs_le _ _ 1000 1000 (by rw [List.length_take]; omega) hly)
      clear hry hiy hb6 r5 hal hbl hlx hly
      go_wp2
      go_loopw [11, 61] (fun v i wr => ∃ k n : Nat, i = .int .i64 k ∧ v = .int .i64 n ∧ k ≤ (natInts (chainP ss a.toNat)).length ∧ Hid (n = pairs ((chainP ss a.toNat).take k) (chainP ss b.toNat)) ∧ Hid (Below w6.heap.size w6 wr)) (fun _ i _ => (natInts (chainP ss a.toNat)).length - (intOf i).toNat)
      case atStart => exact ⟨0, 0, rfl, rfl, Nat.zero_le _, Lib.hid rfl, Lib.hid (Below.refl _ _)⟩
      case round =>
        obtain ⟨k, n, rfl, rfl, hk, HN, HW⟩ := hrel
        by_cases hlt : k < (natInts (chainP ss a.toNat)).length
        · obtain ⟨s, hs⟩ : ∃ s, (chainP ss a.toNat)[k]? = some s := ⟨_, List.getElem?_eq_getElem (by have := HNX.out; omega)⟩
          have hsI : (natInts (chainP ss a.toNat))[k]? = some (s : Int) := by unfold natInts; rw [List.getElem?_map, hs]; rfl
          obtain ⟨b1, f1, rfl, hb1, q1⟩ := (IX6.out.below HW.out).at (by omega)
          have e0 := q1 k _ hsI
          have HPN : Hid (pairs ((chainP ss a.toNat).take (k + 1)) (chainP ss b.toNat) = n + (chainP ss b.toNat).count s) := Lib.hid (by rw [List.take_add_one, hs, HN.out]; exact pairs_snoc _ _ _)
          have hnb : n ≤ 1000000 := by have := HNB.out k; rw [← HN.out] at this; omega
          clear hs hsI hb1 q1
          go_wp2
          go_loopw [11, 67] (fun v i wr2 => ∃ j m : Nat, i = .int .i64 j ∧ v = .int .i64 m ∧ j ≤ (natInts (chainP ss b.toNat)).length ∧ m ≤ 1001000 ∧ Hid (m = n + ((chainP ss b.toNat).take j).count s) ∧ Hid (Below w6.heap.size w6 wr2)) (fun _ i _ => (natInts (chainP ss b.toNat)).length - (intOf i).toNat)
          case atStart => exact ⟨0, n, rfl, rfl, Nat.zero_le _, by omega, Lib.hid (by simp), HW⟩
          case round =>
            obtain ⟨j, m, rfl, rfl, hj, hmb, HM, HW2⟩ := hrel
            by_cases hlt2 : j < (natInts (chainP ss b.toNat)).length
            · obtain ⟨t, ht⟩ : ∃ t, (chainP ss b.toNat)[j]? = some t := ⟨_, List.getElem?_eq_getElem (by have := HNY.out; omega)⟩
              have htI : (natInts (chainP ss b.toNat))[j]? = some (t : Int) := by unfold natInts; rw [List.getElem?_map, ht]; rfl
              obtain ⟨b2, f2, rfl, hb2, q2⟩ := (IY.out.below HW2.out).at (by omega)
              have e1 := q2 j _ htI
              have HCN : Hid (((chainP ss b.toNat).take (j + 1)).count s = ((chainP ss b.toNat).take j).count s + if t = s then 1 else 0) := Lib.hid (by rw [List.take_add_one, ht, List.count_append]; simp [List.count_singleton])
              have hcj : m ≤ n + j := by have h1 := List.count_le_length (a := s) (l := (chainP ss b.toNat).take j); rw [List.length_take] at h1; have := HM.out; omega
              clear ht htI hb2 q2
              by_cases he : s = t
              · have heq : ((s : Int) == (t : Int)) = true := by simp [he]
                have HM2 : Hid (m + 1 = n + ((chainP ss b.toNat).take (j + 1)).count s) := Lib.hid (by rw [HCN.out, if_pos he.symm, HM.out]; omega)
                clear he
                go_wp2
                go_roundw
                case rel => exact ⟨j + 1, m + 1, by go_num, by go_num, by omega, by omega, HM2, HW2⟩
                case measure => simp only [intOf]; omega
              · have heq : ((s : Int) == (t : Int)) = false := by simpa using fun h => he (by omega)
                have HM2 : Hid (m = n + ((chainP ss b.toNat).take (j + 1)).count s) := Lib.hid (by rw [HCN.out, if_neg (Ne.symm he), HM.out]; omega)
                clear he
                go_wp2
                go_roundw
                case rel => exact ⟨j + 1, m, by go_num, rfl, by omega, by omega, HM2, HW2⟩
                case measure => simp only [intOf]; omega
            · obtain rfl : j = (natInts (chainP ss b.toNat)).length := by omega
              have HM3 : Hid (m = pairs ((chainP ss a.toNat).take (k + 1)) (chainP ss b.toNat)) := Lib.hid (by rw [HPN.out, HM.out, HNY.out, List.take_length])
              go_wp2
              go_roundw
              case rel => exact ⟨k + 1, m, by go_num, rfl, by omega, HM3, HW2⟩
              case measure => simp only [intOf]; omega
        · obtain rfl : k = (natInts (chainP ss a.toNat)).length := by omega
          have X7 := Lib.hid (belowS X6.out HW.out)
          have r7 := (RB.out.below X7.out RB.out.lt).cell (i := 0) (v := .slice ov ss.length cv) (by rfl)
          have HNE : Hid ((n : Int) = depthP ss z3.toNat + 1) := Lib.hid (by
            have h1 := HN.out
            rw [HNX.out, List.take_length, HPC.out] at h1
            have h2 : z3.toNat = commonP ss a.toNat b.toNat := by have := HS.out.2; omega
            unfold depthP
            rw [h2, h1]
            omega)
          have hnb : n ≤ 1000000 := by have := HNB.out (natInts (chainP ss a.toNat)).length; rw [← HN.out] at this; omega
          go_wp2_with fail
          refine (implDepth_any ss HF.out ov cv z3 _ (HC.out.below X7.out (Nat.le_refl _)) ((HE.out.at HA.out).at X7.out)).mono ?_
          rintro e w8 ⟨⟨h1, -⟩ | ⟨-, rfl⟩, hb8⟩
          · exact absurd HZC.out h1
          obtain ⟨d, hd⟩ : ∃ d, depthP ss z3.toNat = d := ⟨_, rfl⟩
          have HNE2 := HNE.out
          rw [hd] at HNE2
          rw [hd]
          have hw : IntKind.i64.wrap (d + 1) = (n : Int) := by rw [← HNE2]; exact IntWalk.i64_in _ (by omega)
          have hnn : ((n : Int) == (n : Int)) = true := by simp
          have X8 := Lib.hid (belowS X7.out hb8)
          have r8 := (RB.out.below X8.out RB.out.lt).cell (i := 0) (v := .slice ov ss.length cv) (by rfl)
          clear hd HNE2 hb8 r7
          go_wp2_with fail
          refine (implCommon_any ss HF.out ov cv a a _ (HC.out.below X8.out (Nat.le_refl _)) ((HE.out.at HA.out).at X8.out)).mono ?_
          rintro e w9 ⟨z4, rfl, hz4, hb9⟩
          obtain rfl : z4 = a := by
            rcases hz4 with ⟨h1, _⟩ | ⟨_, h2⟩
            · exact absurd ⟨HS.out.1.1, HS.out.1.1⟩ h1
            · have h3 := HS.out.1.1.2
              rw [common_self] at h2
              omega
          have haa : (z4 == z4) = true := by simp
          have XE := Lib.hid (belowS HA.out (belowS X8.out hb9))
          clear hz4 hb9 r8
          go_wp2
          go_ret
          exact ⟨rfl, XE.out⟩
end Go.Proofs.YtmfglfhloahmlaaDoor
namespace Go.Proofs.YtmfglfhloahmlaaDoor
open Go Go.RowKit Go.ChangeShapes Go.WideShapes Go.Deep
theorem cells5 : Tryd.prog.cellsOf 5 = 1 := by kernel_rfl
set_option maxRecDepth 100000 in
theorem open_code {H : Type} {enc : TypeId × Value → H} {W : World} {base : Nat} {v1 : Value} {d1 : DataW H} {p1 : List MemPlace} (hval : Value.okWide Tryd.prog W .any base 57 v1) (h1 : DataW.Trod enc Tryd.prog W 0 (fun _ => true) true 57 v1 d1 p1) :
    ∃ oa len cap, v1 = .slice oa len cap ∧ HoldsBytes W oa len ∧ len ≤ cap := by
  obtain ⟨a1, len, cap, rfl⟩ := okWide_slice Tryd.underlying57 hval
  obtain ⟨fuel, hf⟩ := h1
  rcases open_ints Tryd.underlying57 Tryd.underlying5 cells5 hf with ⟨hcs, hx⟩ | ⟨a, len', cap', zs, hcs, _, hl, hm, hz, hx, hcell, hwz⟩
  · simp [Value.cells] at hcs
    obtain ⟨rfl, rfl, rfl⟩ := hcs
    exact ⟨none, 0, 0, rfl, .inl rfl, Nat.le_refl _⟩
  · simp [Value.cells] at hcs
    obtain ⟨rfl, rfl, rfl⟩ := hcs
    simp only [if_true] at hz
    refine ⟨some a, len, cap, rfl, ?_, hl⟩
    by_cases h0 : len = 0
    · exact .inl h0
    · obtain ⟨ab, ao, spot⟩ := a
      have hspot : spot = none := by simpa [Addr.add] using World.cell?_spot (hcell 0 (by omega))
      subst hspot
      have c0 := hcell 0 (by omega)
      refine .inr ⟨ab, ao, rfl, ?_, fun j hj => ?_⟩
      · rw [Addr.add_lit] at c0
        exact World.block_lt_of_cell? _ _ c0
      · have hcj := hcell j (by omega)
        rw [Addr.add_lit] at hcj
        have hb := range_u8 hwz j
        rw [← List.getD_eq_getElem?_getD] at hb
        obtain ⟨z, hz'⟩ : ∃ z, zs.getD j 0 = z := ⟨_, rfl⟩
        rw [hz'] at hb hcj
        have hzz : ((z.toNat : Nat) : Int) = z := Int.toNat_of_nonneg hb.1
        exact ⟨z.toNat, by omega, by rw [hcj, hzz]⟩
end Go.Proofs.YtmfglfhloahmlaaDoor
