/-
  The walks of the given l5Pick, VisibleNames, FreeNames and ClashesOf. Condition: the argument's memory holds the graph.
-/
import Derived.Test.YtoijapbffhkbbaaDoorVis
import Derived.Test.YtoijapbffhkbbaaDoorWSpecLook
namespace Go.Proofs.YtoijapbffhkbbaaDoor
open Go Go.RowKit
theorem cut_nat (p : ByteArray) (j k : Nat) (hj : j ≤ k) (hk : k ≤ p.size) (w : World) : (Instr.slice 9 (.string p) (some (.int .i64 (j : Int))) (some (.int .i64 (k : Int))) none).run Tryd.prog w = .ok (.string (p.extract j k)) w := by
  simp [go_sem, hj, hk]
theorem cut_letter {k : Nat} (hk : k < 26) (w : World) : (Instr.slice 9 (.string ⟨#[97, 98, 99, 100, 101, 102, 103, 104, 105, 106, 107, 108, 109, 110, 111, 112, 113, 114, 115, 116, 117, 118, 119, 120, 121, 122]⟩) (some (.int .i64 (k : Int))) (some (.int .i64 ((k : Int) + 1))) none).run Tryd.prog w = .ok (.string (letterB k)) w := by
  have h := cut_nat lettersB k (k + 1) (Nat.le_succ _) (by rw [letters_size]; omega) w
  rw [letters_cut hk] at h
  exact h
set_option maxRecDepth 100000 in
set_option maxHeartbeats 1600000 in
theorem l5Pick_any (ss : List Sc) (hv : Valid ss) (hf : FitsScopes ss) (oa : Option Addr) (cap : Nat) (s : Nat) (hs : s < ss.length) (lo hi : Int) (w : World) (hc : HoldsScopes w oa ss) :
    Calls Tryd.prog 68 #[.agg #[.slice oa ss.length cap], .int .i64 (s : Int), .int .i64 lo, .int .i64 hi] w fun e w' => e = .returned (.string (pickP ss s (fun m => inB (m : Int) lo hi) 26)) ∧ Below w.heap.size w w' := by
  have hb0 := (Below.refl w.heap.size w).alloc (Nat.le_refl _) (.cells #[.slice oa ss.length cap] 30)
  have RG := Lib.hid (Row.new w [.slice oa ss.length cap] 30)
  have HB0 := Lib.hid hb0
  have HC := Lib.hid hc
  have HF := Lib.hid hf
  have HV := Lib.hid hv
  have HS := Lib.hid hs
  clear hb0 hc hf hv hs
  go_enter Tryd.func68, Tryd.ntmps68
  go_wp2
  go_loopw [9, 12] (fun o i wr => ∃ k : Nat, i = .int .i64 k ∧ k ≤ 26 ∧ o = .string (pickP ss s (fun m => inB (m : Int) lo hi) k) ∧ Hid (Below w.heap.size w wr ∧ Row wr w.heap.size 30 [.slice oa ss.length cap])) (fun _ i _ => 26 - (intOf i).toNat)
  case atStart => exact ⟨0, rfl, by omega, rfl, Lib.hid ⟨HB0.out, RG.out⟩⟩
  case round =>
    obtain ⟨k, rfl, hk, rfl, HW⟩ := hrel
    by_cases hlt : k < 26
    · have HX := Lib.hid hlt
      have hcut := cut_letter hlt
      have g0 := HW.out.2.cell (i := 0) (by rfl)
      have C2 := Lib.hid (specLookUp3_any ss HV.out HF.out oa cap s HS.out (letterB k) wr (HC.out.below HW.out.1 (Nat.le_refl _)))
      have hz := pickP_size ss s (fun m => inB (m : Int) lo hi) k
      have hsum : ¬ 9223372036854775807 < (pickP ss s (fun m => inB (m : Int) lo hi) k).size + (letterB k).size := by rw [letterB_size]; omega
      go_wp2_with fail
      refine C2.out.mono ?_
      rintro e w2 ⟨u, rfl, hu, hb2⟩
      obtain ⟨ou, cu, rfl⟩ := ownsRow_slice hu
      have HW2 := Lib.hid (And.intro (HW.out.1.trans (hb2.mono HW.out.1.size)) (HW.out.2.below hb2 HW.out.2.lt))
      clear hu hb2 g0
      go_wp2_with fail
      refine (l1In_any _ lo hi _).mono ?_
      rintro e w3 ⟨rfl, rfl⟩
      cases hq : inB ((lookP ss s (letterB k)).places.length : Int) lo hi
      · have HE : Hid (pickP ss s (fun m => inB (m : Int) lo hi) (k + 1) = pickP ss s (fun m => inB (m : Int) lo hi) k) := Lib.hid (pickP_no hq)
        clear hq
        go_wp2
        go_roundw
        case rel => exact ⟨k + 1, by go_num, by omega, by rw [HE.out], HW2⟩
        case measure => simp only [intOf]; omega
      · have HE : Hid (pickP ss s (fun m => inB (m : Int) lo hi) (k + 1) = pickP ss s (fun m => inB (m : Int) lo hi) k ++ letterB k) := Lib.hid (pickP_yes hq)
        clear hq
        go_wp2
        go_roundw
        case rel => exact ⟨k + 1, by go_num, by omega, by rw [HE.out], HW2⟩
        case measure => simp only [intOf]; omega
    · obtain rfl : k = 26 := by omega
      go_wp2
      go_ret
      exact ⟨rfl, HW.out.1⟩
set_option maxRecDepth 100000 in
theorem specVisible_any (ss : List Sc) (hf : FitsScopes ss) (oa : Option Addr) (cap : Nat) (n : Int) (w : World) (hc : HoldsScopes w oa ss) :
    Calls Tryd.prog 16 #[.agg #[.slice oa ss.length cap], .int .i64 n] w (PickGot ss (fun m => inB (m : Int) 1 100) n w) := by
  have hb0 := (Below.refl w.heap.size w).alloc (Nat.le_refl _) (.cells #[.slice oa ss.length cap] 30)
  have C := Lib.hid (specScope_any ss hf oa cap n _ (hc.below hb0 (Nat.le_refl _)))
  have R := Lib.hid (Row.new w [.slice oa ss.length cap] 30)
  have HB0 := Lib.hid hb0
  have HC := Lib.hid hc
  have HF := Lib.hid hf
  clear hf hc hb0
  go_enter Tryd.func16, Tryd.ntmps16
  go_wp2_with fail
  refine C.out.mono ?_
  rintro e w1 ⟨b, rfl, hv, hb⟩
  have HB := Lib.hid (HB0.out.trans (hb.mono HB0.out.size))
  have R1 := Lib.hid (R.out.below hb R.out.lt)
  have c1 := R1.out.cell (i := 0) (by rfl)
  have HV := Lib.hid hv
  clear hb hv
  cases b
  · have HN : Hid (¬ HasScope ss n) := Lib.hid (fun h => by have := HV.out.2 h; cases this)
    go_wp2
    go_ret2
    exact ⟨_, false, rfl, .inl ⟨HN.out, rfl, rfl⟩, HB.out⟩
  · have HH := Lib.hid (HV.out.1 rfl)
    obtain ⟨s, rfl⟩ : ∃ s : Nat, n = (s : Int) := ⟨n.toNat, by have := HH.out.2.1; omega⟩
    have C2 := Lib.hid (l5Pick_any ss HH.out.1 HF.out oa cap s (by have := HH.out.2.2; omega) 1 100 _ (HC.out.below HB.out (Nat.le_refl _)))
    go_wp2_with fail
    refine C2.out.mono ?_
    rintro e w2 ⟨rfl, hb2⟩
    have HB2 := Lib.hid (HB.out.trans (hb2.mono HB.out.size))
    clear hb2
    go_wp2
    go_ret2
    exact ⟨_, true, rfl, .inr ⟨HH.out, by rw [Int.toNat_natCast], rfl⟩, HB2.out⟩
set_option maxRecDepth 100000 in
theorem specFree_any (ss : List Sc) (hf : FitsScopes ss) (oa : Option Addr) (cap : Nat) (n : Int) (w : World) (hc : HoldsScopes w oa ss) :
    Calls Tryd.prog 31 #[.agg #[.slice oa ss.length cap], .int .i64 n] w (PickGot ss (fun m => inB (m : Int) 0 0) n w) := by
  have hb0 := (Below.refl w.heap.size w).alloc (Nat.le_refl _) (.cells #[.slice oa ss.length cap] 30)
  have C := Lib.hid (specScope_any ss hf oa cap n _ (hc.below hb0 (Nat.le_refl _)))
  have R := Lib.hid (Row.new w [.slice oa ss.length cap] 30)
  have HB0 := Lib.hid hb0
  have HC := Lib.hid hc
  have HF := Lib.hid hf
  clear hf hc hb0
  go_enter Tryd.func31, Tryd.ntmps31
  go_wp2_with fail
  refine C.out.mono ?_
  rintro e w1 ⟨b, rfl, hv, hb⟩
  have HB := Lib.hid (HB0.out.trans (hb.mono HB0.out.size))
  have R1 := Lib.hid (R.out.below hb R.out.lt)
  have c1 := R1.out.cell (i := 0) (by rfl)
  have HV := Lib.hid hv
  clear hb hv
  cases b
  · have HN : Hid (¬ HasScope ss n) := Lib.hid (fun h => by have := HV.out.2 h; cases this)
    go_wp2
    go_ret2
    exact ⟨_, false, rfl, .inl ⟨HN.out, rfl, rfl⟩, HB.out⟩
  · have HH := Lib.hid (HV.out.1 rfl)
    obtain ⟨s, rfl⟩ : ∃ s : Nat, n = (s : Int) := ⟨n.toNat, by have := HH.out.2.1; omega⟩
    have C2 := Lib.hid (l5Pick_any ss HH.out.1 HF.out oa cap s (by have := HH.out.2.2; omega) 0 0 _ (HC.out.below HB.out (Nat.le_refl _)))
    go_wp2_with fail
    refine C2.out.mono ?_
    rintro e w2 ⟨rfl, hb2⟩
    have HB2 := Lib.hid (HB.out.trans (hb2.mono HB.out.size))
    clear hb2
    go_wp2
    go_ret2
    exact ⟨_, true, rfl, .inr ⟨HH.out, by rw [Int.toNat_natCast], rfl⟩, HB2.out⟩
set_option maxRecDepth 100000 in
theorem specClashes_any (ss : List Sc) (hf : FitsScopes ss) (oa : Option Addr) (cap : Nat) (n : Int) (w : World) (hc : HoldsScopes w oa ss) :
    Calls Tryd.prog 33 #[.agg #[.slice oa ss.length cap], .int .i64 n] w (PickGot ss (fun m => inB (m : Int) 2 100) n w) := by
  have hb0 := (Below.refl w.heap.size w).alloc (Nat.le_refl _) (.cells #[.slice oa ss.length cap] 30)
  have C := Lib.hid (specScope_any ss hf oa cap n _ (hc.below hb0 (Nat.le_refl _)))
  have R := Lib.hid (Row.new w [.slice oa ss.length cap] 30)
  have HB0 := Lib.hid hb0
  have HC := Lib.hid hc
  have HF := Lib.hid hf
  clear hf hc hb0
  go_enter Tryd.func33, Tryd.ntmps33
  go_wp2_with fail
  refine C.out.mono ?_
  rintro e w1 ⟨b, rfl, hv, hb⟩
  have HB := Lib.hid (HB0.out.trans (hb.mono HB0.out.size))
  have R1 := Lib.hid (R.out.below hb R.out.lt)
  have c1 := R1.out.cell (i := 0) (by rfl)
  have HV := Lib.hid hv
  clear hb hv
  cases b
  · have HN : Hid (¬ HasScope ss n) := Lib.hid (fun h => by have := HV.out.2 h; cases this)
    go_wp2
    go_ret2
    exact ⟨_, false, rfl, .inl ⟨HN.out, rfl, rfl⟩, HB.out⟩
  · have HH := Lib.hid (HV.out.1 rfl)
    obtain ⟨s, rfl⟩ : ∃ s : Nat, n = (s : Int) := ⟨n.toNat, by have := HH.out.2.1; omega⟩
    have C2 := Lib.hid (l5Pick_any ss HH.out.1 HF.out oa cap s (by have := HH.out.2.2; omega) 2 100 _ (HC.out.below HB.out (Nat.le_refl _)))
    go_wp2_with fail
    refine C2.out.mono ?_
    rintro e w2 ⟨rfl, hb2⟩
    have HB2 := Lib.hid (HB.out.trans (hb2.mono HB.out.size))
    clear hb2
    go_wp2
    go_ret2
    exact ⟨_, true, rfl, .inr ⟨HH.out, by rw [Int.toNat_natCast], rfl⟩, HB2.out⟩
end Go.Proofs.YtoijapbffhkbbaaDoor
