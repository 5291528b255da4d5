/-
  The walk of the law FnExactParsePlace: at every text it returns true, and only new memory is written. Condition: the package-level variables hold what their initialisers lay.
-/
import Derived.Test.YthjmgpjbpnaneaaDoorWImplPlace
namespace Go.Proofs.YthjmgpjbpnaneaaDoor
open Go Go.RowKit Sg
set_option maxRecDepth 100000 in
set_option maxHeartbeats 1600000 in
theorem lawPlace (s : ByteArray) (w : World) (hs0 : s.size ≤ maxLen) (hg : NumGlobs w) (hm : CutGlobs w) :
    Calls Tryd.prog 13 #[.string s] w fun e w' => e = .returned (.bool true) ∧ Below w.heap.size w w' := by
  unfold maxLen at hs0
  by_cases hs : s.size ≤ 1048576
  · have hs' : ((s.size : Nat) : Int) ≤ 1048576 := by omega
    have c1 := fun w => specPlace_any s w hs
    have c2 := fun w => implPlace_any s w hs
    generalize placeOf s.data.toList = r at c1 c2
    obtain ⟨ok, a, b⟩ := r
    have C1 := Lib.hid c1
    have C2 := Lib.hid c2
    clear hs c1 c2
    go_enter Tryd.func13, Tryd.ntmps13
    go_wp2_with fail
    refine (C1.out _).mono ?_
    rintro e w1 ⟨rfl, hb1⟩
    have hB1 := hb1.alloc hb1.size (.cells #[.int .i64 a, .int .i64 b] 47)
    have hg1 := hg.below hB1 hg.tabs.size
    have hm1 := hm.below hB1 hg.tabs.size
    go_wp2_with fail
    refine (C2.out _ hg1 hm1).mono ?_
    rintro e w2 ⟨rfl, hb2⟩
    have k0 : w2.cell? ⟨w1.heap.size, 0, none⟩ = some (.int .i64 a) := (hb2.cell (by simp)).trans (by simp)
    have k1 : w2.cell? ⟨w1.heap.size, 1, none⟩ = some (.int .i64 b) := (hb2.cell (by simp)).trans (by simp)
    have hz : w1.heap.size < w2.heap.size := by have := hb2.size; simp at this; omega
    have hB2 := hB1.trans (hb2.mono hB1.size)
    go_wp2_with fail
    refine (eqPlace_same a b _).mono ?_
    rintro e w3 ⟨rfl, hb3⟩
    have hB3 := (hB2.alloc hB2.size (.cells #[.int .i64 a, .int .i64 b] 47)).trans (hb3.mono (by have := hB2.size; simp; omega))
    cases ok
    all_goals
      go_wp2
      go_ret
      exact ⟨rfl, hB3⟩
  · have hs' : (1048576 : Int) < ((s.size : Nat) : Int) := by omega
    go_enter Tryd.func13, Tryd.ntmps13
    go_wp2
    go_ret
    exact ⟨rfl, Below.refl _ _⟩
end Go.Proofs.YthjmgpjbpnaneaaDoor
