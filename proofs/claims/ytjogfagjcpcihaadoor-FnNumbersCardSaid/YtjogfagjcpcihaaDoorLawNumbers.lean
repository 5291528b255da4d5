/-
  The walk of the law FnNumbers: at every two codes it returns true, and only new memory is written. Condition: the table of powers of ten is whole.
-/
import Derived.Test.YtjogfagjcpcihaaDoorWDrawNums
import Derived.Test.YtjogfagjcpcihaaDoorWNumsI
import Derived.Test.YtjogfagjcpcihaaDoorWSame
namespace Go.Proofs.YtjogfagjcpcihaaDoor
open Go Go.RowKit Sg
theorem bytes_eq {a b : ByteArray} (h : a.data.toList = b.data.toList) : a = b := by
  apply ByteArray.ext; exact Array.toList_inj.1 h
set_option maxRecDepth 100000 in
set_option maxHeartbeats 4000000 in
theorem lawNumbers {w : World} {oa ob : Option Addr} {len cap len2 cap2 : Nat} (h : HoldsBytes w oa len) (hlc : len ≤ cap) (h2 : HoldsBytes w ob len2) (hlc2 : len2 ≤ cap2) (hg : TabGlobs w) :
    Calls Tryd.prog 5 #[.slice oa len cap, .slice ob len2 cap2] w fun e w' => e = .returned (.bool true) ∧ Below w.heap.size w w' := by
  by_cases hn : (1048576 : Int) < (len : Int)
  · clear h h2 hg
    go_enter Tryd.func5, Tryd.ntmps5
    go_wp2
    go_ret
    exact ⟨rfl, Below.refl _ _⟩
  by_cases hn2 : (1048576 : Int) < (len2 : Int)
  · clear h h2 hg
    go_enter Tryd.func5, Tryd.ntmps5
    go_wp2
    go_ret
    exact ⟨rfl, Below.refl _ _⟩
  have C := Lib.hid (drawNums_any h (by omega) hlc)
  have HG := Lib.hid hg
  have H2 := Lib.hid (And.intro h2 (And.intro hlc2 (show len2 ≤ 2 ^ 62 by omega)))
  clear h hg hlc h2 hlc2
  go_enter Tryd.func5, Tryd.ntmps5
  go_wp2_with fail
  refine C.out.mono ?_
  rintro e w1 ⟨xs, o1, c1, rfl, hi1, hx1, hp1, hb1⟩
  have B1 := Lib.hid hb1
  have I1 := Lib.hid hi1
  have P1 := Lib.hid hp1
  clear hi1 hb1 hp1
  go_wp2_with fail
  refine (drawNums_any (H2.out.1.below B1.out) H2.out.2.2 H2.out.2.1).mono ?_
  rintro e w2 ⟨ys, o2, c2, rfl, hi2, hx2, hp2, hb2⟩
  have B2 := Lib.hid (B1.out.trans (hb2.mono B1.out.size))
  have I2 := Lib.hid hi2
  have I12 := Lib.hid (I1.out.below hb2)
  have P2 := Lib.hid hp2
  clear hi2 hb2 hp2
  go_wp2_with fail
  refine (implNums_any xs o1 c1 _ (HG.out.below B2.out HG.out.size) (by omega) P1.out I12.out).mono ?_
  rintro e w3 ⟨T1, rfl, hT1, hb3⟩
  have B3 := Lib.hid (B2.out.trans (hb3.mono B2.out.size))
  have K1 := Lib.hid hT1
  have I13 := Lib.hid (I12.out.below hb3)
  have I23 := Lib.hid (I2.out.below hb3)
  clear hT1 hb3
  go_wp2_with fail
  refine (specNums_any xs o1 c1 _ (by omega) P1.out I13.out).mono ?_
  rintro e w4 ⟨T2, rfl, hT2, hb4⟩
  obtain rfl : T2 = T1 := bytes_eq (hT2.trans K1.out.symm)
  have B4 := Lib.hid (B3.out.trans (hb4.mono B3.out.size))
  have I14 := Lib.hid (I13.out.below hb4)
  have I24 := Lib.hid (I23.out.below hb4)
  clear hT2 hb4
  go_wp2_with fail
  refine (implNums_any xs o1 c1 _ (HG.out.below B4.out HG.out.size) (by omega) P1.out I14.out).mono ?_
  rintro e w5 ⟨T3, rfl, hT3, hb5⟩
  obtain rfl : T3 = T2 := bytes_eq (hT3.trans K1.out.symm)
  have B5 := Lib.hid (B4.out.trans (hb5.mono B4.out.size))
  have I15 := Lib.hid (I14.out.below hb5)
  have I25 := Lib.hid (I24.out.below hb5)
  clear hT3 hb5
  go_wp2_with fail
  refine (implNums_any ys o2 c2 _ (HG.out.below B5.out HG.out.size) (by omega) P2.out I25.out).mono ?_
  rintro e w6 ⟨T4, rfl, hT4, hb6⟩
  have B6 := Lib.hid (B5.out.trans (hb6.mono B5.out.size))
  have I16 := Lib.hid (I15.out.below hb6)
  have I26 := Lib.hid (I25.out.below hb6)
  have K4 := Lib.hid hT4
  clear hT4 hb6
  go_wp2_with fail
  refine (sgSame_any xs ys o1 o2 c1 c2 _ (by omega) (by omega) I16.out I26.out).mono ?_
  rintro e w7 ⟨t, rfl, ht, hb7⟩
  have B7 := Lib.hid (B6.out.trans (hb7.mono B6.out.size))
  have HT : Hid (((T3.toList == T4.toList) == t) = true) := Lib.hid (by
    rw [beq_iff_eq, Bool.eq_iff_iff, ht, beq_iff_eq, ByteArray.toList_eq, ByteArray.toList_eq, K1.out, K4.out]
    exact ⟨numsText_inj, fun e => by rw [e]⟩)
  clear ht hb7
  go_wp2
  go_ret
  exact ⟨congrArg (fun b => Ending.returned (Value.bool b)) HT.out, B7.out⟩
end Go.Proofs.YtjogfagjcpcihaaDoor
