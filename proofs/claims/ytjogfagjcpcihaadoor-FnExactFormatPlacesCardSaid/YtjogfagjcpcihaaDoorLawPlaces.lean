/-
  The walk of the law FnExactFormatPlaces: at every list of places it returns true, and only new memory is written. Condition: the table of powers of ten is whole.
-/
import Derived.Test.YtjogfagjcpcihaaDoorWImplPlaces
namespace Go.Proofs.YtjogfagjcpcihaaDoor
open Go Go.RowKit Sg
theorem bytes_same {a b : ByteArray} (h : a.data.toList = b.data.toList) : a = b := by
  apply ByteArray.ext; exact Array.toList_inj.1 h
set_option maxRecDepth 100000 in
set_option maxHeartbeats 1600000 in
theorem lawPlaces (ps : List (Int × Int)) (oa : Option Addr) (cap : Nat) (w : World) (hl : ps.length ≤ 2 ^ 63 - 1) (hg : TabGlobs w) (hp : ∀ p ∈ ps, I64 p.1 ∧ I64 p.2) (h : ArgPlaces w oa ps) :
    Calls Tryd.prog 7 #[.slice oa ps.length cap] w fun e w' => e = .returned (.bool true) ∧ Below w.heap.size w w' := by
  by_cases hn : ps.length ≤ 1048576
  · have C0 := Lib.hid (szPlaceS_any oa ps.length cap 1048576 · hl (by omega) (by omega))
    rw [if_pos (by omega)] at C0
    have h0 : (0 : Int) ≤ 1048576 - (ps.length : Int) := by omega
    have HN := Lib.hid hn
    have HP := Lib.hid hp
    have HA := Lib.hid h
    have hn2 : ps.length < 2 ^ 40 := by omega
    clear hn hp h hl
    go_enter Tryd.func7, Tryd.ntmps7
    go_wp2_with fail
    refine (C0.out _).mono ?_
    rintro e w0 ⟨rfl, rfl⟩
    go_wp2_with fail
    refine (toPlaceS_arg ps oa cap _ HN.out HA.out).mono ?_
    rintro e w1 ⟨g1, rfl, hg1, hr1, hb1⟩
    go_wp2_with fail
    refine (specPlaces_any ps g1 0 ps.length _ HN.out HP.out hr1.lt hr1.places).mono ?_
    rintro e w2 ⟨T1, rfl, hT1, hb2⟩
    have hB2 := hb1.trans (hb2.mono hb1.size)
    go_wp2_with fail
    refine (toPlaceS_arg ps oa cap _ HN.out (HA.out.below hB2)).mono ?_
    rintro e w3 ⟨g3, rfl, hg3, hr3, hb3⟩
    have hB3 := hB2.trans (hb3.mono hB2.size)
    go_wp2_with fail
    refine (implPlaces_any ps g3 0 ps.length _ (hg.below hB3 hg.size) HN.out HP.out hr3.lt hr3.places).mono ?_
    rintro e w4 ⟨T2, rfl, hT2, hb4⟩
    obtain rfl : T2 = T1 := bytes_same (hT2.trans hT1.symm)
    have hB4 := hB3.trans (hb4.mono hB3.size)
    have hr4 := hr3.below hb4 hr3.lt
    clear hT1 hT2
    go_wp2_with fail
    refine (toPlaceS_arg ps oa cap _ HN.out (HA.out.below hB4)).mono ?_
    rintro e w5 ⟨g5, rfl, hg5, hr5, hb5⟩
    have hB5 := hB4.trans (hb5.mono hB4.size)
    have hr45 := hr4.below hb5 hr4.lt
    go_wp2_with fail
    refine (eqPlaceS_same ps g3 0 ps.length g5 0 ps.length _ hn2 hr45.lt hr5.lt hr45.places hr5.places).mono ?_
    rintro e w6 ⟨rfl, hb6⟩
    have hB6 := hB5.trans (hb6.mono hB5.size)
    go_wp2
    go_ret
    exact ⟨rfl, hB6⟩
  · have C0 := Lib.hid (szPlaceS_any oa ps.length cap 1048576 · hl (by omega) (by omega))
    rw [if_neg (by omega)] at C0
    clear hn hp h hl
    go_enter Tryd.func7, Tryd.ntmps7
    go_wp2_with fail
    refine (C0.out _).mono ?_
    rintro e w0 ⟨rfl, rfl⟩
    go_wp2
    go_ret
    exact ⟨rfl, Below.refl _ _⟩
end Go.Proofs.YtjogfagjcpcihaaDoor
