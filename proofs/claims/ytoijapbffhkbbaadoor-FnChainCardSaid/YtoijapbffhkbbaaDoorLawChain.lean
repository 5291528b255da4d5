/-
  The walk of the law FnChain: at every argument it returns true, and only new memory is written. Conditions: the argument's memory holds bytes; the package-level errors hold errors.
-/
import Derived.Test.YtoijapbffhkbbaaDoorLawPls
import Derived.Test.YtoijapbffhkbbaaDoorWCommon
import Derived.Test.YtoijapbffhkbbaaDoorWImplWithin
import Derived.Test.YtoijapbffhkbbaaDoorWDrawS
import Derived.Test.YtoijapbffhkbbaaDoorChainMore
import Derived.Test.YtoijapbffhkbbaaDoorWSame
import Derived.Lib.QuietBelow
import Derived.BigQuiet
import Derived.ChangeSame
import Derived.ProofKit
import Derived.OpenShut
namespace Go.Proofs.YtoijapbffhkbbaaDoor
open Go Go.RowKit Sg
theorem sgSame_self (ps : List Int) (oa ob : Option Addr) (ca cb : Nat) (w : World) (hn : ps.length ≤ 1000000) (ha : HoldsInts w oa ps) (hb : HoldsInts w ob ps) :
    Calls Tryd.prog 41 #[.slice oa ps.length ca, .slice ob ps.length cb] w fun e w' => e = .returned (.bool true) ∧ Below w.heap.size w w' :=
  (sgSame_any ps ps oa ob ca cb w hn hn ha hb).mono (by rintro e w' ⟨t, rfl, ht, hb⟩; exact ⟨by rw [ht.2 rfl], hb⟩)
/-- A scope's depth, or -1. -/
theorem depth_tell (ss : List Sc) (s : Int) : ∃ z : Int, (HasScope ss s → z = depthP ss s.toNat) ∧ (∀ (_ : Fair ss) (ov : Option Addr) (cv : Nat) (w : World), HoldsScopes w ov ss → NodeErrs w → Calls Tryd.prog 50 #[.agg #[.slice ov ss.length cv], .int .i64 s] w fun e w' => e = .returned (.int .i64 z) ∧ Below w.heap.size w w') ∧
    (∀ (_ : FitsScopes ss) (ov : Option Addr) (cv : Nat) (w : World), HoldsScopes w ov ss → Calls Tryd.prog 51 #[.agg #[.slice ov ss.length cv], .int .i64 s] w fun e w' => e = .returned (.int .i64 z) ∧ Below w.heap.size w w') := by
  by_cases h : HasScope ss s
  · refine ⟨depthP ss s.toNat, fun _ => rfl, fun hF ov cv w hc hE => (implDepth_any ss hF ov cv s w hc hE).mono ?_, fun hf ov cv w hc => (specDepth_any ss hf ov cv s w hc).mono ?_⟩
    all_goals
      rintro e w' ⟨⟨h1, -⟩ | ⟨-, rfl⟩, hb⟩
      · exact absurd h h1
      · exact ⟨rfl, hb⟩
  · refine ⟨-1, fun hh => absurd hh h, fun hF ov cv w hc hE => (implDepth_any ss hF ov cv s w hc hE).mono ?_, fun hf ov cv w hc => (specDepth_any ss hf ov cv s w hc).mono ?_⟩
    all_goals
      rintro e w' ⟨⟨-, rfl⟩ | ⟨h1, -⟩, hb⟩
      · exact ⟨rfl, hb⟩
      · exact absurd h1 h
theorem not_mem_take_next {l : List Nat} {j m s : Nat} (h : l[j]? = some m) : decide (s ∈ l.take (j + 1)) = (decide (s ∈ l.take j) || ((m : Int) == (s : Int))) := by
  rw [List.take_add_one, h]
  simp only [Option.toList_some, List.mem_append, List.mem_singleton]
  rw [Bool.eq_iff_iff]
  simp only [decide_eq_true_iff, Bool.or_eq_true, beq_iff_eq]
  constructor
  · rintro (h1 | h1)
    · exact .inl h1
    · exact .inr (by omega)
  · rintro (h1 | h1)
    · exact .inl h1
    · exact .inr (by omega)
set_option maxRecDepth 100000 in
set_option maxHeartbeats 8000000 in
theorem lawChain {w : World} {oa : Option Addr} {len cap : Nat} (h : HoldsBytes w oa len) (hlc : len ≤ cap) (hE : NodeErrs w) :
    Calls Tryd.prog 10 #[.slice oa len cap] w fun e w' => e = .returned (.bool true) ∧ Below w.heap.size w w' := by
  by_cases hn : (1048576 : Int) < (len : Int)
  · clear h hE
    go_enter Tryd.func10, Tryd.ntmps10
    go_wp2
    go_ret
    exact ⟨rfl, Below.refl _ _⟩
  · have C := Lib.hid (drawChainOf_any h (by omega) hlc)
    have HE := Lib.hid hE
    clear h hE hlc
    go_enter Tryd.func10, Tryd.ntmps10
    go_wp2_with fail
    refine C.out.mono ?_
    rintro e w1 ⟨ss, ov, cv, s, rfl, hh, hl, hsI, hb1⟩
    have HF := Lib.hid (hl.fair (by omega))
    have hbA := (Below.refl w1.heap.size w1).alloc (Nat.le_refl _) (.cells #[.slice ov ss.length cv] 30)
    have HA := Lib.hid (belowS hb1 hbA)
    have HC := Lib.hid (hh.below hbA (Nat.le_refl _))
    have RB := Lib.hid (Row.new w1 [.slice ov ss.length cv] 30)
    have HEA := Lib.hid (HE.out.at HA.out)
    clear hh hl hsI hb1 hbA
    go_wp2_with fail
    refine (implChain_any ss HF.out ov cv s _ HC.out HEA.out).mono ?_
    intro e w2 hgot
    obtain ⟨o1, c1, xs, b, rfl, hv1, ha1, -, hb2⟩ := hgot.val
    have V1 := Lib.hid hv1
    have A1 := Lib.hid ha1
    have X2 := Lib.hid hb2
    have r2 := (RB.out.below X2.out RB.out.lt).cell (i := 0) (v := .slice ov ss.length cv) (by rfl)
    clear hgot hv1 ha1 hb2
    go_wp2_with fail
    refine (implWithin_any ss HF.out ov cv s _ (HC.out.below X2.out (Nat.le_refl _)) (HEA.out.at X2.out)).mono ?_
    intro e w3 hgot
    obtain ⟨o2, c2, is, f, rfl, hv2, hi2, -, hb3⟩ := hgot.val
    have V2 := Lib.hid hv2
    have I2 := Lib.hid hi2
    have A1a := Lib.hid (A1.out.below hb3)
    have X3 := Lib.hid (belowS X2.out hb3)
    have r3 := (RB.out.below X3.out RB.out.lt).cell (i := 0) (v := .slice ov ss.length cv) (by rfl)
    clear hgot hv2 hi2 hb3 r2
    go_wp2_with fail
    refine (specChain_any ss HF.out.fits ov cv s _ (HC.out.below X3.out (Nat.le_refl _))).mono ?_
    intro e w4 hgot
    obtain ⟨o3, c3, ys, b', rfl, hv3, ha3, hb4⟩ := hgot.val
    obtain ⟨rfl, rfl⟩ := hv3.same V1.out
    have A3 := Lib.hid ha3
    have A1b := Lib.hid (A1a.out.below hb4)
    have I2b := Lib.hid (I2.out.below hb4)
    have X4 := Lib.hid (belowS X3.out hb4)
    have r4 := (RB.out.below X4.out RB.out.lt).cell (i := 0) (v := .slice ov ss.length cv) (by rfl)
    clear hgot hv3 ha3 hb4 r3
    go_wp2_with fail
    refine (specWithin_any ss HF.out.fits ov cv s _ (HC.out.below X4.out (Nat.le_refl _))).mono ?_
    intro e w5 hgot
    obtain ⟨o4, c4, js, f', rfl, hv4, hi4, hb5⟩ := hgot.val
    obtain ⟨rfl, rfl⟩ := hv4.same V2.out
    have I4 := Lib.hid hi4
    have A3c := Lib.hid (A3.out.below hb5)
    have A1c := Lib.hid (A1b.out.below hb5)
    have I2c := Lib.hid (I2b.out.below hb5)
    have X5 := Lib.hid (belowS X4.out hb5)
    have r5 := (RB.out.below X5.out RB.out.lt).cell (i := 0) (v := .slice ov ss.length cv) (by rfl)
    have hxl : ys.length ≤ 1000 := by
      rcases V1.out with ⟨_, rfl, _⟩ | ⟨hok, rfl, _⟩
      · simp
      · have h1 := chain_bound hok.1.climbs (s := s.toNat) (by have := hok.2; omega)
        have h2 := hok.1.count.2
        rw [natInts_length]
        omega
    have hil : js.length ≤ 1000 := by
      rcases V2.out with ⟨_, rfl, _⟩ | ⟨hok, rfl, _⟩
      · simp
      · have h1 := List.length_filter_le (fun k => decide (s.toNat ∈ chainP ss k)) (List.range ss.length)
        have h2 := hok.1.count.2
        rw [natInts_length]
        unfold withinP
        rw [List.length_range] at h1
        omega
    obtain ⟨z, hz, HZI, HZS⟩ := depth_tell ss s
    have hzz : (z != z) = false := by simp
    have hzz2 : (z == z) = true := by simp
    have rA := cell_regrown r5
    have HEND : ∀ dq osq, Below (w1.alloc (.cells #[.slice ov ss.length cv] 30)).heap.size (w1.alloc (.cells #[.slice ov ss.length cv] 30)) (Sort.grow (redrawn w5 dq) osq) := fun dq osq => belowS X5.out (below_regrown w5 dq osq)
    have D1 : ∀ d os, Calls Tryd.prog 41 #[.slice o1 ys.length c1, .slice o3 ys.length c3] (Sort.grow (redrawn w5 d) os) fun e w'' => e = .returned (.bool true) ∧ ∃ q : Regrown, w'' = Sort.grow (redrawn w5 q.d) q.os :=
      fun d os => Calls.regrown_of (sgSame_self ys o1 o3 c1 c3 _ (by omega) (A1c.out.below (below_regrown w5 d os)) (A3c.out.below (below_regrown w5 d os)))
    have D2 : ∀ d os, Calls Tryd.prog 41 #[.slice o2 js.length c2, .slice o4 js.length c4] (Sort.grow (redrawn w5 d) os) fun e w'' => e = .returned (.bool true) ∧ ∃ q : Regrown, w'' = Sort.grow (redrawn w5 q.d) q.os :=
      fun d os => Calls.regrown_of (sgSame_self js o2 o4 c2 c4 _ (by omega) (I2c.out.below (below_regrown w5 d os)) (I4.out.below (below_regrown w5 d os)))
    have D3 : ∀ d os, Calls Tryd.prog 50 #[.agg #[.slice ov ss.length cv], .int .i64 s] (Sort.grow (redrawn w5 d) os) fun e w'' => e = .returned (.int .i64 z) ∧ ∃ q : Regrown, w'' = Sort.grow (redrawn w5 q.d) q.os :=
      fun d os => Calls.regrown_of (HZI HF.out ov cv _ (HC.out.below (HEND d os) (Nat.le_refl _)) (HEA.out.at (HEND d os)))
    have D4 : ∀ d os, Calls Tryd.prog 51 #[.agg #[.slice ov ss.length cv], .int .i64 s] (Sort.grow (redrawn w5 d) os) fun e w'' => e = .returned (.int .i64 z) ∧ ∃ q : Regrown, w'' = Sort.grow (redrawn w5 q.d) q.os :=
      fun d os => Calls.regrown_of (HZS HF.out.fits ov cv _ (HC.out.below (HEND d os) (Nat.le_refl _)))
    have HZ := Lib.hid (And.intro hz (And.intro HZI HZS))
    have HENDH := Lib.hid HEND
    clear hgot hv4 hi4 hb5 r4 hz HZI HZS HEND
    by_cases hS : HasScope ss s
    · obtain ⟨s', rfl⟩ : ∃ s' : Nat, s = (s' : Int) := ⟨s.toNat, by have := hS.2.1; omega⟩
      obtain ⟨hy, rfl⟩ : ys = natInts (chainP ss s') ∧ b' = true := by
        rcases V1.out with ⟨h1, _⟩ | ⟨_, h2, h3⟩
        · exact absurd hS h1
        · exact ⟨by rw [h2, Int.toNat_natCast], h3⟩
      obtain ⟨hj, rfl⟩ : js = natInts (withinP ss s') ∧ f' = true := by
        rcases V2.out with ⟨h1, _⟩ | ⟨_, h2, h3⟩
        · exact absurd hS h1
        · exact ⟨by rw [h2, Int.toNat_natCast], h3⟩
      subst hy
      subst hj
      have HS := Lib.hid hS
      have HCL := Lib.hid hS.1.climbs
      have HSL : Hid (s' < ss.length) := Lib.hid (by have := hS.2.2; omega)
      clear hS V1 V2
      go_wp2
      refine wp_region_quiet_below (by kernel_rfl) (by kernel_rfl) ?_
      repeat (first | go_big_quiet_step (with_reducible first | exact D1 _ _ | exact D2 _ _ | exact D3 _ _ | exact D4 _ _) | quiet_step (with_reducible first | exact D1 _ _ | exact D2 _ _ | exact D3 _ _ | exact D4 _ _))
      refine wpQuiet_nil ?_
      intro _ hw'
      obtain ⟨⟨dq, osq⟩, hw''⟩ := hw'
      subst hw''
      have X6 := Lib.hid (HENDH.out dq osq)
      have A6 := Lib.hid (A1c.out.below (below_regrown w5 dq osq))
      have I6 := Lib.hid (I2c.out.below (below_regrown w5 dq osq))
      clear D1 D2 D3 D4 rA r5 HENDH
      generalize Sort.grow (redrawn w5 dq) osq = w6 at *
      have HNY : Hid ((natInts (chainP ss s')).length = (chainP ss s').length) := Lib.hid (natInts_length _)
      have HNJ : Hid ((natInts (withinP ss s')).length = (withinP ss s').length) := Lib.hid (natInts_length _)
      clear hzz hzz2
      go_wp2
      go_loopw [116] (fun i wr => ∃ k : Nat, i = .int .i64 k ∧ k ≤ (natInts (chainP ss s')).length ∧ Hid (Below w6.heap.size w6 wr)) (fun i _ => (natInts (chainP ss s')).length - (intOf i).toNat)
      case atStart => exact ⟨0, rfl, Nat.zero_le _, Lib.hid (Below.refl _ _)⟩
      case round =>
        obtain ⟨k, rfl, hk, HW⟩ := hrel
        by_cases hlt : k < (natInts (chainP ss s')).length
        · obtain ⟨m, hm⟩ : ∃ m, (chainP ss s')[k]? = some m := ⟨_, List.getElem?_eq_getElem (by have := HNY.out; omega)⟩
          have hmI : (natInts (chainP ss s'))[k]? = some (m : Int) := by unfold natInts; rw [List.getElem?_map, hm]; rfl
          obtain ⟨b1, f1, rfl, hb1, q1⟩ := (A6.out.below HW.out).at (by omega)
          have e0 := q1 k _ hmI
          have HMM := Lib.hid hm
          have HML : Hid (m < ss.length) := Lib.hid (by have := chain_le HCL.out s' m (List.mem_of_getElem? hm); have := HSL.out; omega)
          have HSM : Hid (HasScope ss (m : Int)) := Lib.hid ⟨HS.out.1, by omega, by have := HML.out; omega⟩
          have X7 := Lib.hid (belowS X6.out HW.out)
          have r7 := (RB.out.below X7.out RB.out.lt).cell (i := 0) (v := .slice ov ss.length cv) (by rfl)
          clear hm hmI hb1 q1
          go_wp2_with fail
          refine (implWithin_any ss HF.out ov cv (m : Int) _ (HC.out.below X7.out (Nat.le_refl _)) (HEA.out.at X7.out)).mono ?_
          intro e w8 hgot
          obtain ⟨o5, c5, zs, b5, rfl, hv5, hi5, -, hb8⟩ := hgot.val
          obtain rfl : zs = natInts (withinP ss m) := by
            rcases hv5 with ⟨h1, _⟩ | ⟨_, h2, _⟩
            · exact absurd HSM.out h1
            · rw [h2, Int.toNat_natCast]
          have I5 := Lib.hid hi5
          have HW8 := Lib.hid (belowS HW.out hb8)
          have HN5 : Hid ((natInts (withinP ss m)).length = (withinP ss m).length) := Lib.hid (natInts_length _)
          have hn5 : (natInts (withinP ss m)).length ≤ 1000 := by
            have h1 := List.length_filter_le (fun k => decide (m ∈ chainP ss k)) (List.range ss.length)
            have h2 := HS.out.1.count.2
            rw [natInts_length]
            unfold withinP
            rw [List.length_range] at h1
            omega
          clear hgot hv5 hi5 hb8 r7 e0
          go_wp2
          go_loopw [17, 129] (fun v i wr => ∃ j : Nat, i = .int .i64 j ∧ j ≤ (natInts (withinP ss m)).length ∧ v = .bool (decide (s' ∈ (withinP ss m).take j)) ∧ Hid (Below w8.heap.size w8 wr)) (fun _ i _ => (natInts (withinP ss m)).length - (intOf i).toNat)
          case atStart => exact ⟨0, rfl, Nat.zero_le _, by simp, Lib.hid (Below.refl _ _)⟩
          case round =>
            obtain ⟨j, rfl, hj, rfl, HW2⟩ := hrel
            by_cases hlt2 : j < (natInts (withinP ss m)).length
            · obtain ⟨t, ht⟩ : ∃ t, (withinP ss m)[j]? = some t := ⟨_, List.getElem?_eq_getElem (by have := HN5.out; omega)⟩
              have htI : (natInts (withinP ss m))[j]? = some (t : Int) := by unfold natInts; rw [List.getElem?_map, ht]; rfl
              obtain ⟨b2, f2, rfl, hb2, q2⟩ := (I5.out.below HW2.out).at (by omega)
              have e1 := q2 j _ htI
              have HNX := Lib.hid (not_mem_take_next (s := s') ht)
              clear ht htI hb2 q2
              cases hq : decide (s' ∈ (withinP ss m).take j)
              · have HQ := Lib.hid hq
                clear hq
                go_wp2
                go_roundw
                case rel => exact ⟨j + 1, by go_num, by omega, by rw [HNX.out, HQ.out, Bool.false_or], HW2⟩
                case measure => simp only [intOf]; omega
              · have HQ := Lib.hid hq
                clear hq
                go_wp2
                go_roundw
                case rel => exact ⟨j + 1, by go_num, by omega, by rw [HNX.out, HQ.out, Bool.true_or], HW2⟩
                case measure => simp only [intOf]; omega
            · obtain rfl : j = (natInts (withinP ss m)).length := by omega
              have hin : decide (s' ∈ (withinP ss m).take (natInts (withinP ss m)).length) = true := by
                rw [HN5.out, List.take_length]
                exact decide_eq_true (mem_within.2 ⟨HSL.out, List.mem_of_getElem? HMM.out⟩)
              rw [hin]
              have HW9 := Lib.hid (belowS HW8.out HW2.out)
              have X9 := Lib.hid (belowS X6.out HW9.out)
              have r9 := (RB.out.below X9.out RB.out.lt).cell (i := 0) (v := .slice ov ss.length cv) (by rfl)
              clear hin
              by_cases h0 : 0 < k
              · obtain ⟨k', rfl⟩ : ∃ k', k = k' + 1 := ⟨k - 1, by omega⟩
                obtain ⟨m', hm'⟩ : ∃ m, (chainP ss s')[k']? = some m := ⟨_, List.getElem?_eq_getElem (by have := HNY.out; omega)⟩
                have hmI' : (natInts (chainP ss s'))[k']? = some (m' : Int) := by unfold natInts; rw [List.getElem?_map, hm']; rfl
                obtain ⟨c, hc, hcp⟩ := par_val (chain_next HCL.out s' k' hm' HMM.out)
                obtain ⟨b3, f3, he3, hb3, q3⟩ := (A6.out.below HW9.out).at (by omega)
                cases he3
                have e3 := q3 k' _ hmI'
                have hcl := (List.getElem?_eq_some_iff.1 hc).1
                obtain ⟨bb, off, rfl, hbb, hcell⟩ := (HC.out.below X9.out (Nat.le_refl _)).at (by omega)
                obtain ⟨oi, ci, a0, a1, -⟩ := hcell m' c hc
                rw [hcp] at a0
                have hne : ((m : Int) != (m : Int)) = false := by simp
                have hkw : IntKind.i64.wrap (((k' + 1 : Nat) : Int) - 1) = (k' : Int) := by rw [show ((k' + 1 : Nat) : Int) - 1 = (k' : Int) by omega]; exact IntWalk.i64_in _ (by omega)
                clear hc hcp hcell q3 hmI' hm'
                go_wp2
                go_quiet (fail)
                go_wp2
                go_roundw
                case rel => exact ⟨k' + 1 + 1, by go_num, by omega, Lib.hid (below_drewN HW9.out _)⟩
                case measure => simp only [intOf]; omega
              · obtain rfl : k = 0 := by omega
                go_wp2
                go_quiet (fail)
                go_wp2
                go_roundw
                case rel => exact ⟨1, by go_num, by omega, Lib.hid (below_drewN HW9.out _)⟩
                case measure => simp only [intOf]; omega
        · obtain rfl : k = (natInts (chainP ss s')).length := by omega
          have X7 := Lib.hid (belowS X6.out HW.out)
          have hnj : (natInts (withinP ss s')).length ≤ 1000 := hil
          go_wp2
          go_loopw [163] (fun i wr => ∃ j : Nat, i = .int .i64 j ∧ j ≤ (natInts (withinP ss s')).length ∧ Hid (Below w6.heap.size w6 wr)) (fun i _ => (natInts (withinP ss s')).length - (intOf i).toNat)
          case atStart => exact ⟨0, rfl, Nat.zero_le _, HW⟩
          case round =>
            obtain ⟨j, rfl, hj, HW2⟩ := hrel
            by_cases hlt2 : j < (natInts (withinP ss s')).length
            · obtain ⟨t, ht⟩ : ∃ t, (withinP ss s')[j]? = some t := ⟨_, List.getElem?_eq_getElem (by have := HNJ.out; omega)⟩
              have htI : (natInts (withinP ss s'))[j]? = some (t : Int) := by unfold natInts; rw [List.getElem?_map, ht]; rfl
              obtain ⟨b2, f2, rfl, hb2, q2⟩ := (I6.out.below HW2.out).at (by omega)
              have e1 := q2 j _ htI
              have HTM := Lib.hid (List.mem_of_getElem? ht)
              have X8 := Lib.hid (belowS X6.out HW2.out)
              have r8 := (RB.out.below X8.out RB.out.lt).cell (i := 0) (v := .slice ov ss.length cv) (by rfl)
              have hss : ((s' : Int) != (s' : Int)) = false := by simp
              clear ht htI hb2 q2
              go_wp2_with fail
              refine (implCommon_any ss HF.out ov cv (t : Int) (s' : Int) _ (HC.out.below X8.out (Nat.le_refl _)) (HEA.out.at X8.out)).mono ?_
              rintro e w9 ⟨z9, rfl, hz9, hb9⟩
              obtain rfl : z9 = (s' : Int) := by
                rcases hz9 with ⟨h1, _⟩ | ⟨_, h2⟩
                · exact absurd ⟨⟨HS.out.1, by omega, by have := (mem_within.1 HTM.out).1; omega⟩, HS.out⟩ h1
                · rw [h2, Int.toNat_natCast, Int.toNat_natCast, common_within HCL.out HSL.out HTM.out]
              have HW9 := Lib.hid (belowS HW2.out hb9)
              clear hz9 hb9 r8 e1
              go_wp2
              go_roundw
              case rel => exact ⟨j + 1, by go_num, by omega, HW9⟩
              case measure => simp only [intOf]; omega
            · obtain rfl : j = (natInts (withinP ss s')).length := by omega
              obtain ⟨tl, htl⟩ := chain_head ss s'
              obtain ⟨n, hn⟩ : ∃ n, (natInts (chainP ss s')).length = n + 1 := ⟨tl.length, by rw [HNY.out, htl]; rfl⟩
              have hi0 : (natInts (chainP ss s'))[0]? = some (s' : Int) := by rw [htl]; rfl
              have hiL : (natInts (chainP ss s'))[n]? = some (0 : Int) := by
                have h1 := chain_last HCL.out s' HSL.out
                rw [← HNY.out, hn, Nat.add_sub_cancel] at h1
                unfold natInts
                rw [List.getElem?_map, h1]
                rfl
              obtain ⟨b2, f2, rfl, hb2, q2⟩ := (A6.out.below HW2.out).at (by omega)
              have e1 := q2 0 _ hi0
              rw [Nat.add_zero] at e1
              have e2 := q2 n _ hiL
              have X8 := Lib.hid (belowS X6.out HW2.out)
              have r8 := (RB.out.below X8.out RB.out.lt).cell (i := 0) (v := .slice ov ss.length cv) (by rfl)
              have hnl : n < (natInts (chainP ss s')).length := by omega
              have hnw : IntKind.i64.wrap (((natInts (chainP ss s')).length : Int) - 1) = (n : Int) := by rw [hn, show ((n + 1 : Nat) : Int) - 1 = (n : Int) by omega]; exact IntWalk.i64_in _ (by omega)
              have hzn : (z == (n : Int)) = true := by
                have h1 := HZ.out.1 HS.out
                rw [h1, Int.toNat_natCast]
                unfold depthP
                rw [← HNY.out, hn]
                simp
              have hp0 : 0 < (natInts (chainP ss s')).length := by omega
              have hss : ((s' : Int) == (s' : Int)) = true := by simp
              clear htl hn hi0 hiL hb2 q2
              go_wp2_with fail
              refine (HZ.out.2.1 HF.out ov cv _ (HC.out.below X8.out (Nat.le_refl _)) (HEA.out.at X8.out)).mono ?_
              rintro e w9 ⟨rfl, hb9⟩
              have XE := Lib.hid (belowS HA.out (belowS X8.out hb9))
              clear hb9
              go_wp2
              go_ret
              exact ⟨rfl, XE.out⟩
    · obtain ⟨hy, rfl⟩ : ys = [] ∧ b' = false := by
        rcases V1.out with ⟨_, h2, h3⟩ | ⟨h1, _⟩
        · exact ⟨h2, h3⟩
        · exact absurd h1 hS
      obtain ⟨hj, rfl⟩ : js = [] ∧ f' = false := by
        rcases V2.out with ⟨_, h2, h3⟩ | ⟨h1, _⟩
        · exact ⟨h2, h3⟩
        · exact absurd h1 hS
      clear hS hy hj V1 V2
      go_wp2
      refine wp_region_quiet_below (by kernel_rfl) (by kernel_rfl) ?_
      repeat (first | go_big_quiet_step (with_reducible first | exact D1 _ _ | exact D2 _ _ | exact D3 _ _ | exact D4 _ _) | quiet_step (with_reducible first | exact D1 _ _ | exact D2 _ _ | exact D3 _ _ | exact D4 _ _))
      refine wpQuiet_nil ?_
      intro _ hw'
      obtain ⟨⟨dq, osq⟩, hw''⟩ := hw'
      subst hw''
      have X6 := Lib.hid (HENDH.out dq osq)
      have A6 := Lib.hid (A1c.out.below (below_regrown w5 dq osq))
      have A36 := Lib.hid (A3c.out.below (below_regrown w5 dq osq))
      have I6 := Lib.hid (I2c.out.below (below_regrown w5 dq osq))
      have I46 := Lib.hid (I4.out.below (below_regrown w5 dq osq))
      clear D1 D2 D3 D4 rA r5 HENDH
      generalize Sort.grow (redrawn w5 dq) osq = w6 at *
      have r6 := (RB.out.below X6.out RB.out.lt).cell (i := 0) (v := .slice ov ss.length cv) (by rfl)
      have rA := cell_regrown r6
      have HEND : ∀ dq osq, Below (w1.alloc (.cells #[.slice ov ss.length cv] 30)).heap.size (w1.alloc (.cells #[.slice ov ss.length cv] 30)) (Sort.grow (redrawn w6 dq) osq) := fun dq osq => belowS X6.out (below_regrown w6 dq osq)
      have D1 : ∀ d os, Calls Tryd.prog 41 #[.slice o1 ys.length c1, .slice o3 ys.length c3] (Sort.grow (redrawn w6 d) os) fun e w'' => e = .returned (.bool true) ∧ ∃ q : Regrown, w'' = Sort.grow (redrawn w6 q.d) q.os :=
        fun d os => Calls.regrown_of (sgSame_self ys o1 o3 c1 c3 _ (by omega) (A6.out.below (below_regrown w6 d os)) (A36.out.below (below_regrown w6 d os)))
      have D2 : ∀ d os, Calls Tryd.prog 41 #[.slice o2 js.length c2, .slice o4 js.length c4] (Sort.grow (redrawn w6 d) os) fun e w'' => e = .returned (.bool true) ∧ ∃ q : Regrown, w'' = Sort.grow (redrawn w6 q.d) q.os :=
        fun d os => Calls.regrown_of (sgSame_self js o2 o4 c2 c4 _ (by omega) (I6.out.below (below_regrown w6 d os)) (I46.out.below (below_regrown w6 d os)))
      have D3 : ∀ d os, Calls Tryd.prog 50 #[.agg #[.slice ov ss.length cv], .int .i64 s] (Sort.grow (redrawn w6 d) os) fun e w'' => e = .returned (.int .i64 z) ∧ ∃ q : Regrown, w'' = Sort.grow (redrawn w6 q.d) q.os :=
        fun d os => Calls.regrown_of (HZ.out.2.1 HF.out ov cv _ (HC.out.below (HEND d os) (Nat.le_refl _)) (HEA.out.at (HEND d os)))
      have D4 : ∀ d os, Calls Tryd.prog 51 #[.agg #[.slice ov ss.length cv], .int .i64 s] (Sort.grow (redrawn w6 d) os) fun e w'' => e = .returned (.int .i64 z) ∧ ∃ q : Regrown, w'' = Sort.grow (redrawn w6 q.d) q.os :=
        fun d os => Calls.regrown_of (HZ.out.2.2 HF.out.fits ov cv _ (HC.out.below (HEND d os) (Nat.le_refl _)))
      have HENDH := Lib.hid HEND
      clear HEND
      go_wp2
      refine wp_region_quiet_below (by kernel_rfl) (by kernel_rfl) ?_
      repeat (first | go_big_quiet_step (with_reducible first | exact D1 _ _ | exact D2 _ _ | exact D3 _ _ | exact D4 _ _) | quiet_step (with_reducible first | exact D1 _ _ | exact D2 _ _ | exact D3 _ _ | exact D4 _ _))
      refine wpQuiet_nil ?_
      intro _ hw'
      obtain ⟨⟨dq2, osq2⟩, hw''⟩ := hw'
      subst hw''
      have XE := Lib.hid (belowS HA.out (HENDH.out dq2 osq2))
      clear D1 D2 D3 D4 rA r6 HENDH
      go_wp2
      go_ret
      exact ⟨rfl, XE.out⟩
end Go.Proofs.YtoijapbffhkbbaaDoor
