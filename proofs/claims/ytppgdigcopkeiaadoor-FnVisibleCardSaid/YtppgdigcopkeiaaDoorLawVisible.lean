/-
  The walks of the given l5Pick, VisibleNames, FreeNames and ClashesOf. Condition: the argument's memory holds the graph. The walks of the laws' sgPlaces and sgSame. Condition: the arguments' memory holds the lists. A law's argument of bytes opened. The walk of the law FnVisible: at every argument it returns true, and only new memory is written. Conditions: the argument's memory holds bytes; the package-level errors hold errors.
-/
import Derived.Test.YtppgdigcopkeiaaDoorVis
import Derived.Test.YtppgdigcopkeiaaDoorWSpecLook
import Derived.Test.YtppgdigcopkeiaaDoorWMarksP
import Derived.Test.YtppgdigcopkeiaaDoorWSpecPls
import Derived.Test.YtppgdigcopkeiaaDoorWFrom
import Derived.Test.YtppgdigcopkeiaaDoorWDrawAll
import Derived.ChangeSame
import Derived.ProofKit
import Derived.OpenShut
import Derived.Test.YtppgdigcopkeiaaDoorLawPls
import Derived.Test.YtppgdigcopkeiaaDoorWPickI
import Derived.Test.YtppgdigcopkeiaaDoorWImplLook
import Derived.Test.YtppgdigcopkeiaaDoorWDraws2
namespace Go.Proofs.YtppgdigcopkeiaaDoor
open Go Go.RowKit
theorem cut_nat (p : ByteArray) (j k : Nat) (hj : j ≤ k) (hk : k ≤ p.size) (w : World) : (Instr.slice 9 (.string p) (some (.int .i64 (j : Int))) (some (.int .i64 (k : Int))) none).run Tryd.prog w = .ok (.string (p.extract j k)) w := by
  simp [go_sem, hj, hk]
theorem cut_letter {k : Nat} (hk : k < 26) (w : World) : (Instr.slice 9 (.string ⟨#[97, 98, 99, 100, 101, 102, 103, 104, 105, 106, 107, 108, 109, 110, 111, 112, 113, 114, 115, 116, 117, 118, 119, 120, 121, 122]⟩) (some (.int .i64 (k : Int))) (some (.int .i64 ((k : Int) + 1))) none).run Tryd.prog w = .ok (.string (letterB k)) w := by
  have h := cut_nat lettersB k (k + 1) (Nat.le_succ _) (by rw [letters_size]; omega) w
  rw [letters_cut hk] at h
  exact h
set_option maxRecDepth 100000 in
set_option maxHeartbeats 1600000 in
theorem l5Pick_any (ss : List Sc) (hv : Valid ss) (hf : FitsScopes ss) (oa : Option Addr) (cap : Nat) (s : Nat) (hs : s < ss.length) (lo hi : Int) (w : World) (hc : HoldsScopes w oa ss) :
    Calls Tryd.prog 101 #[.agg #[.slice oa ss.length cap], .int .i64 (s : Int), .int .i64 lo, .int .i64 hi] w fun e w' => e = .returned (.string (pickP ss s (fun m => inB (m : Int) lo hi) 26)) ∧ Below w.heap.size w w' := by
  have hb0 := (Below.refl w.heap.size w).alloc (Nat.le_refl _) (.cells #[.slice oa ss.length cap] 30)
  have RG := Lib.hid (Row.new w [.slice oa ss.length cap] 30)
  have HB0 := Lib.hid hb0
  have HC := Lib.hid hc
  have HF := Lib.hid hf
  have HV := Lib.hid hv
  have HS := Lib.hid hs
  clear hb0 hc hf hv hs
  go_enter Tryd.func101, Tryd.ntmps101
  go_wp2
  go_loopw [9, 12] (fun o i wr => ∃ k : Nat, i = .int .i64 k ∧ k ≤ 26 ∧ o = .string (pickP ss s (fun m => inB (m : Int) lo hi) k) ∧ Hid (Below w.heap.size w wr ∧ Row wr w.heap.size 30 [.slice oa ss.length cap])) (fun _ i _ => 26 - (intOf i).toNat)
  case atStart => exact ⟨0, rfl, by omega, rfl, Lib.hid ⟨HB0.out, RG.out⟩⟩
  case round =>
    obtain ⟨k, rfl, hk, rfl, HW⟩ := hrel
    by_cases hlt : k < 26
    · have HX := Lib.hid hlt
      have hcut := cut_letter hlt
      have g0 := HW.out.2.cell (i := 0) (by rfl)
      have C2 := Lib.hid (specLookUp3_any ss HV.out HF.out oa cap s HS.out (letterB k) wr (HC.out.below HW.out.1 (Nat.le_refl _)))
      have hz := pickP_size ss s (fun m => inB (m : Int) lo hi) k
      have hsum : ¬ 9223372036854775807 < (pickP ss s (fun m => inB (m : Int) lo hi) k).size + (letterB k).size := by rw [letterB_size]; omega
      go_wp2_with fail
      refine C2.out.mono ?_
      rintro e w2 ⟨u, rfl, hu, hb2⟩
      obtain ⟨ou, cu, rfl⟩ := ownsRow_slice hu
      have HW2 := Lib.hid (And.intro (HW.out.1.trans (hb2.mono HW.out.1.size)) (HW.out.2.below hb2 HW.out.2.lt))
      clear hu hb2 g0
      go_wp2_with fail
      refine (l1In_any _ lo hi _).mono ?_
      rintro e w3 ⟨rfl, rfl⟩
      cases hq : inB ((lookP ss s (letterB k)).places.length : Int) lo hi
      · have HE : Hid (pickP ss s (fun m => inB (m : Int) lo hi) (k + 1) = pickP ss s (fun m => inB (m : Int) lo hi) k) := Lib.hid (pickP_no hq)
        clear hq
        go_wp2
        go_roundw
        case rel => exact ⟨k + 1, by go_num, by omega, by rw [HE.out], HW2⟩
        case measure => simp only [intOf]; omega
      · have HE : Hid (pickP ss s (fun m => inB (m : Int) lo hi) (k + 1) = pickP ss s (fun m => inB (m : Int) lo hi) k ++ letterB k) := Lib.hid (pickP_yes hq)
        clear hq
        go_wp2
        go_roundw
        case rel => exact ⟨k + 1, by go_num, by omega, by rw [HE.out], HW2⟩
        case measure => simp only [intOf]; omega
    · obtain rfl : k = 26 := by omega
      go_wp2
      go_ret
      exact ⟨rfl, HW.out.1⟩
set_option maxRecDepth 100000 in
theorem specVisible_any (ss : List Sc) (hf : FitsScopes ss) (oa : Option Addr) (cap : Nat) (n : Int) (w : World) (hc : HoldsScopes w oa ss) :
    Calls Tryd.prog 36 #[.agg #[.slice oa ss.length cap], .int .i64 n] w (PickGot ss (fun m => inB (m : Int) 1 100) n w) := by
  have hb0 := (Below.refl w.heap.size w).alloc (Nat.le_refl _) (.cells #[.slice oa ss.length cap] 30)
  have C := Lib.hid (specScope_any ss hf oa cap n _ (hc.below hb0 (Nat.le_refl _)))
  have R := Lib.hid (Row.new w [.slice oa ss.length cap] 30)
  have HB0 := Lib.hid hb0
  have HC := Lib.hid hc
  have HF := Lib.hid hf
  clear hf hc hb0
  go_enter Tryd.func36, Tryd.ntmps36
  go_wp2_with fail
  refine C.out.mono ?_
  rintro e w1 ⟨b, rfl, hv, hb⟩
  have HB := Lib.hid (HB0.out.trans (hb.mono HB0.out.size))
  have R1 := Lib.hid (R.out.below hb R.out.lt)
  have c1 := R1.out.cell (i := 0) (by rfl)
  have HV := Lib.hid hv
  clear hb hv
  cases b
  · have HN : Hid (¬ HasScope ss n) := Lib.hid (fun h => by have := HV.out.2 h; cases this)
    go_wp2
    go_ret2
    exact ⟨_, false, rfl, .inl ⟨HN.out, rfl, rfl⟩, HB.out⟩
  · have HH := Lib.hid (HV.out.1 rfl)
    obtain ⟨s, rfl⟩ : ∃ s : Nat, n = (s : Int) := ⟨n.toNat, by have := HH.out.2.1; omega⟩
    have C2 := Lib.hid (l5Pick_any ss HH.out.1 HF.out oa cap s (by have := HH.out.2.2; omega) 1 100 _ (HC.out.below HB.out (Nat.le_refl _)))
    go_wp2_with fail
    refine C2.out.mono ?_
    rintro e w2 ⟨rfl, hb2⟩
    have HB2 := Lib.hid (HB.out.trans (hb2.mono HB.out.size))
    clear hb2
    go_wp2
    go_ret2
    exact ⟨_, true, rfl, .inr ⟨HH.out, by rw [Int.toNat_natCast], rfl⟩, HB2.out⟩
set_option maxRecDepth 100000 in
theorem specFree_any (ss : List Sc) (hf : FitsScopes ss) (oa : Option Addr) (cap : Nat) (n : Int) (w : World) (hc : HoldsScopes w oa ss) :
    Calls Tryd.prog 37 #[.agg #[.slice oa ss.length cap], .int .i64 n] w (PickGot ss (fun m => inB (m : Int) 0 0) n w) := by
  have hb0 := (Below.refl w.heap.size w).alloc (Nat.le_refl _) (.cells #[.slice oa ss.length cap] 30)
  have C := Lib.hid (specScope_any ss hf oa cap n _ (hc.below hb0 (Nat.le_refl _)))
  have R := Lib.hid (Row.new w [.slice oa ss.length cap] 30)
  have HB0 := Lib.hid hb0
  have HC := Lib.hid hc
  have HF := Lib.hid hf
  clear hf hc hb0
  go_enter Tryd.func37, Tryd.ntmps37
  go_wp2_with fail
  refine C.out.mono ?_
  rintro e w1 ⟨b, rfl, hv, hb⟩
  have HB := Lib.hid (HB0.out.trans (hb.mono HB0.out.size))
  have R1 := Lib.hid (R.out.below hb R.out.lt)
  have c1 := R1.out.cell (i := 0) (by rfl)
  have HV := Lib.hid hv
  clear hb hv
  cases b
  · have HN : Hid (¬ HasScope ss n) := Lib.hid (fun h => by have := HV.out.2 h; cases this)
    go_wp2
    go_ret2
    exact ⟨_, false, rfl, .inl ⟨HN.out, rfl, rfl⟩, HB.out⟩
  · have HH := Lib.hid (HV.out.1 rfl)
    obtain ⟨s, rfl⟩ : ∃ s : Nat, n = (s : Int) := ⟨n.toNat, by have := HH.out.2.1; omega⟩
    have C2 := Lib.hid (l5Pick_any ss HH.out.1 HF.out oa cap s (by have := HH.out.2.2; omega) 0 0 _ (HC.out.below HB.out (Nat.le_refl _)))
    go_wp2_with fail
    refine C2.out.mono ?_
    rintro e w2 ⟨rfl, hb2⟩
    have HB2 := Lib.hid (HB.out.trans (hb2.mono HB.out.size))
    clear hb2
    go_wp2
    go_ret2
    exact ⟨_, true, rfl, .inr ⟨HH.out, by rw [Int.toNat_natCast], rfl⟩, HB2.out⟩
set_option maxRecDepth 100000 in
theorem specClashes_any (ss : List Sc) (hf : FitsScopes ss) (oa : Option Addr) (cap : Nat) (n : Int) (w : World) (hc : HoldsScopes w oa ss) :
    Calls Tryd.prog 38 #[.agg #[.slice oa ss.length cap], .int .i64 n] w (PickGot ss (fun m => inB (m : Int) 2 100) n w) := by
  have hb0 := (Below.refl w.heap.size w).alloc (Nat.le_refl _) (.cells #[.slice oa ss.length cap] 30)
  have C := Lib.hid (specScope_any ss hf oa cap n _ (hc.below hb0 (Nat.le_refl _)))
  have R := Lib.hid (Row.new w [.slice oa ss.length cap] 30)
  have HB0 := Lib.hid hb0
  have HC := Lib.hid hc
  have HF := Lib.hid hf
  clear hf hc hb0
  go_enter Tryd.func38, Tryd.ntmps38
  go_wp2_with fail
  refine C.out.mono ?_
  rintro e w1 ⟨b, rfl, hv, hb⟩
  have HB := Lib.hid (HB0.out.trans (hb.mono HB0.out.size))
  have R1 := Lib.hid (R.out.below hb R.out.lt)
  have c1 := R1.out.cell (i := 0) (by rfl)
  have HV := Lib.hid hv
  clear hb hv
  cases b
  · have HN : Hid (¬ HasScope ss n) := Lib.hid (fun h => by have := HV.out.2 h; cases this)
    go_wp2
    go_ret2
    exact ⟨_, false, rfl, .inl ⟨HN.out, rfl, rfl⟩, HB.out⟩
  · have HH := Lib.hid (HV.out.1 rfl)
    obtain ⟨s, rfl⟩ : ∃ s : Nat, n = (s : Int) := ⟨n.toNat, by have := HH.out.2.1; omega⟩
    have C2 := Lib.hid (l5Pick_any ss HH.out.1 HF.out oa cap s (by have := HH.out.2.2; omega) 2 100 _ (HC.out.below HB.out (Nat.le_refl _)))
    go_wp2_with fail
    refine C2.out.mono ?_
    rintro e w2 ⟨rfl, hb2⟩
    have HB2 := Lib.hid (HB.out.trans (hb2.mono HB.out.size))
    clear hb2
    go_wp2
    go_ret2
    exact ⟨_, true, rfl, .inr ⟨HH.out, by rw [Int.toNat_natCast], rfl⟩, HB2.out⟩
end Go.Proofs.YtppgdigcopkeiaaDoor
namespace Go.Proofs.YtppgdigcopkeiaaDoor
open Go Go.RowKit
theorem take_ne {α : Type} {ps qs : List α} {k : Nat} {p q : α} (hp : ps[k]? = some p) (hq : qs[k]? = some q) (h : p ≠ q) : ps ≠ qs := by
  rintro rfl
  rw [hp] at hq
  exact h (Option.some.inj hq)
theorem take_next {α : Type} {ps qs : List α} {k : Nat} {p : α} (h : ps.take k = qs.take k) (hp : ps[k]? = some p) (hq : qs[k]? = some p) : ps.take (k + 1) = qs.take (k + 1) := by
  rw [List.take_add_one, List.take_add_one, hp, hq, h]
theorem take_all {α : Type} {ps qs : List α} {k : Nat} (h : ps.take k = qs.take k) (hk : k = min ps.length qs.length) : ps = qs ↔ ps.length = qs.length := by
  refine ⟨fun e => by rw [e], fun e => ?_⟩
  rw [List.take_of_length_le (by omega), List.take_of_length_le (by omega)] at h
  exact h
/-- What the laws' comparisons answer. -/
def SameGot (eq : Prop) (w : World) (e : Ending) (w' : World) : Prop := ∃ b : Bool, e = .returned (.bool b) ∧ (b = true ↔ eq) ∧ Below w.heap.size w w'
set_option maxRecDepth 100000 in
set_option maxHeartbeats 1600000 in
theorem sgPlaces_any (ps qs : List (Int × Int)) (oa ob : Option Addr) (ca cb : Nat) (w : World) (hn : ps.length ≤ 1000000) (hm : qs.length ≤ 1000000) (ha : ArgPlaces w oa ps) (hb : ArgPlaces w ob qs) :
    Calls Tryd.prog 46 #[.slice oa ps.length ca, .slice ob qs.length cb] w (SameGot (ps = qs) w) := by
  have HA := Lib.hid ha
  have HB := Lib.hid hb
  clear ha hb
  go_enter Tryd.func46, Tryd.ntmps46
  go_wp2
  · go_loopw [11] (fun i wr => ∃ k : Nat, i = .int .i64 k ∧ k ≤ qs.length ∧ Hid (ps.take k = qs.take k) ∧ Hid (Below w.heap.size w wr)) (fun i _ => qs.length - (intOf i).toNat)
    case atStart => exact ⟨0, rfl, Nat.zero_le _, Lib.hid rfl, Lib.hid (Below.refl _ _)⟩
    case round =>
      obtain ⟨k, rfl, hk, HT, HW⟩ := hrel
      by_cases hlt : k < qs.length
      · have hl1 : k < ps.length := by omega
        have hl2 : k < qs.length := by omega
        obtain ⟨p, hp⟩ : ∃ p, ps[k]? = some p := ⟨_, List.getElem?_eq_getElem hl1⟩
        obtain ⟨q, hq⟩ : ∃ q, qs[k]? = some q := ⟨_, List.getElem?_eq_getElem hl2⟩
        obtain ⟨b1, f1, rfl, hb1, c1⟩ := (HA.out.below HW.out).at (by omega)
        obtain ⟨b2, f2, rfl, hb2, c2⟩ := (HB.out.below HW.out).at (by omega)
        obtain ⟨p0, p1⟩ := c1 k p hp
        obtain ⟨q0, q1⟩ := c2 k q hq
        have HP := Lib.hid hp
        have HQ := Lib.hid hq
        have HD := Lib.hid (HW.out.drew)
        have p0' := cell_drew p0
        have p1' := cell_drew p1
        have q0' := cell_drew q0
        have q1' := cell_drew q1
        clear c1 c2 hp hq p0 p1 q0 q1 hb1 hb2
        obtain ⟨a, b⟩ := p
        obtain ⟨c, d⟩ := q
        by_cases he : a = c ∧ b = d
        · obtain ⟨rfl, rfl⟩ := he
          have hab : ((a == a) && (b == b)) = true := by simp
          have HN := Lib.hid (take_next HT.out HP.out HQ.out)
          go_upto_region 4 with (fail)
          go_region
          all_goals go_wp2
          all_goals go_roundw
          all_goals first
            | exact ⟨k + 1, by go_num, by omega, HN, HD⟩
            | (simp only [intOf]; omega)
        · have HNE : Hid ((false = true) ↔ ps = qs) := Lib.hid ⟨fun h => (by cases h), fun h => absurd h (take_ne HP.out HQ.out (fun e => he ⟨by have := congrArg Prod.fst e; exact this, by have := congrArg Prod.snd e; exact this⟩))⟩
          by_cases h1 : a = c
          · subst h1
            have h2 : ¬ b = d := fun h => he ⟨rfl, h⟩
            clear he
            go_upto_region 4 with (fail)
            go_region
            all_goals go_wp2
            all_goals go_ret
            all_goals exact ⟨_, rfl, HNE.out, HD.out⟩
          · clear he
            go_upto_region 4 with (fail)
            go_region
            all_goals go_wp2
            all_goals go_ret
            all_goals exact ⟨_, rfl, HNE.out, HD.out⟩
      · have hkk : k = min ps.length qs.length := by omega
        have HE := Lib.hid (take_all HT.out hkk)
        clear hkk
        go_wp2
        go_ret
        exact ⟨_, rfl, by rw [HE.out]; simp; constructor <;> intro h <;> omega, HW.out⟩
  · go_loopw [11] (fun i wr => ∃ k : Nat, i = .int .i64 k ∧ k ≤ ps.length ∧ Hid (ps.take k = qs.take k) ∧ Hid (Below w.heap.size w wr)) (fun i _ => ps.length - (intOf i).toNat)
    case atStart => exact ⟨0, rfl, Nat.zero_le _, Lib.hid rfl, Lib.hid (Below.refl _ _)⟩
    case round =>
      obtain ⟨k, rfl, hk, HT, HW⟩ := hrel
      by_cases hlt : k < ps.length
      · have hl1 : k < ps.length := by omega
        have hl2 : k < qs.length := by omega
        obtain ⟨p, hp⟩ : ∃ p, ps[k]? = some p := ⟨_, List.getElem?_eq_getElem hl1⟩
        obtain ⟨q, hq⟩ : ∃ q, qs[k]? = some q := ⟨_, List.getElem?_eq_getElem hl2⟩
        obtain ⟨b1, f1, rfl, hb1, c1⟩ := (HA.out.below HW.out).at (by omega)
        obtain ⟨b2, f2, rfl, hb2, c2⟩ := (HB.out.below HW.out).at (by omega)
        obtain ⟨p0, p1⟩ := c1 k p hp
        obtain ⟨q0, q1⟩ := c2 k q hq
        have HP := Lib.hid hp
        have HQ := Lib.hid hq
        have HD := Lib.hid (HW.out.drew)
        have p0' := cell_drew p0
        have p1' := cell_drew p1
        have q0' := cell_drew q0
        have q1' := cell_drew q1
        clear c1 c2 hp hq p0 p1 q0 q1 hb1 hb2
        obtain ⟨a, b⟩ := p
        obtain ⟨c, d⟩ := q
        by_cases he : a = c ∧ b = d
        · obtain ⟨rfl, rfl⟩ := he
          have hab : ((a == a) && (b == b)) = true := by simp
          have HN := Lib.hid (take_next HT.out HP.out HQ.out)
          go_upto_region 4 with (fail)
          go_region
          all_goals go_wp2
          all_goals go_roundw
          all_goals first
            | exact ⟨k + 1, by go_num, by omega, HN, HD⟩
            | (simp only [intOf]; omega)
        · have HNE : Hid ((false = true) ↔ ps = qs) := Lib.hid ⟨fun h => (by cases h), fun h => absurd h (take_ne HP.out HQ.out (fun e => he ⟨by have := congrArg Prod.fst e; exact this, by have := congrArg Prod.snd e; exact this⟩))⟩
          by_cases h1 : a = c
          · subst h1
            have h2 : ¬ b = d := fun h => he ⟨rfl, h⟩
            clear he
            go_upto_region 4 with (fail)
            go_region
            all_goals go_wp2
            all_goals go_ret
            all_goals exact ⟨_, rfl, HNE.out, HD.out⟩
          · clear he
            go_upto_region 4 with (fail)
            go_region
            all_goals go_wp2
            all_goals go_ret
            all_goals exact ⟨_, rfl, HNE.out, HD.out⟩
      · have hkk : k = min ps.length qs.length := by omega
        have HE := Lib.hid (take_all HT.out hkk)
        clear hkk
        go_wp2
        go_ret
        exact ⟨_, rfl, by rw [HE.out]; simp; constructor <;> intro h <;> omega, HW.out⟩
end Go.Proofs.YtppgdigcopkeiaaDoor
namespace Go.Proofs.YtppgdigcopkeiaaDoor
open Go Go.RowKit
set_option maxRecDepth 100000 in
set_option maxHeartbeats 1600000 in
theorem sgSame_any (ps qs : List Int) (oa ob : Option Addr) (ca cb : Nat) (w : World) (hn : ps.length ≤ 1000000) (hm : qs.length ≤ 1000000) (ha : HoldsInts w oa ps) (hb : HoldsInts w ob qs) :
    Calls Tryd.prog 58 #[.slice oa ps.length ca, .slice ob qs.length cb] w (SameGot (ps = qs) w) := by
  have HA := Lib.hid ha
  have HB := Lib.hid hb
  clear ha hb
  go_enter Tryd.func58, Tryd.ntmps58
  go_wp2
  · go_loopw [11] (fun i wr => ∃ k : Nat, i = .int .i64 k ∧ k ≤ qs.length ∧ Hid (ps.take k = qs.take k) ∧ Hid (Below w.heap.size w wr)) (fun i _ => qs.length - (intOf i).toNat)
    case atStart => exact ⟨0, rfl, Nat.zero_le _, Lib.hid rfl, Lib.hid (Below.refl _ _)⟩
    case round =>
      obtain ⟨k, rfl, hk, HT, HW⟩ := hrel
      by_cases hlt : k < qs.length
      · have hl1 : k < ps.length := by omega
        have hl2 : k < qs.length := by omega
        obtain ⟨p, hp⟩ : ∃ p, ps[k]? = some p := ⟨_, List.getElem?_eq_getElem hl1⟩
        obtain ⟨q, hq⟩ : ∃ q, qs[k]? = some q := ⟨_, List.getElem?_eq_getElem hl2⟩
        obtain ⟨b1, f1, rfl, hb1, c1⟩ := (HA.out.below HW.out).at (by omega)
        obtain ⟨b2, f2, rfl, hb2, c2⟩ := (HB.out.below HW.out).at (by omega)
        have p0 := c1 k p hp
        have q0 := c2 k q hq
        have HP := Lib.hid hp
        have HQ := Lib.hid hq
        have HD := Lib.hid (HW.out.drew)
        have p0' := cell_drew p0
        have q0' := cell_drew q0
        clear c1 c2 hp hq p0 q0 hb1 hb2
        by_cases he : p = q
        · subst he
          have hab : (p != p) = false := by simp
          have HN := Lib.hid (take_next HT.out HP.out HQ.out)
          go_upto_region 4 with (fail)
          go_region
          all_goals go_wp2
          all_goals go_roundw
          all_goals first
            | exact ⟨k + 1, by go_num, by omega, HN, HD⟩
            | (simp only [intOf]; omega)
        · have HNE : Hid ((false = true) ↔ ps = qs) := Lib.hid ⟨fun h => (by cases h), fun h => absurd h (take_ne HP.out HQ.out he)⟩
          have hab : (p != q) = true := by simpa using he
          clear he
          go_upto_region 4 with (fail)
          go_region
          all_goals go_wp2
          all_goals go_ret
          all_goals exact ⟨_, rfl, HNE.out, HD.out⟩
      · have hkk : k = min ps.length qs.length := by omega
        have HE := Lib.hid (take_all HT.out hkk)
        clear hkk
        go_wp2
        go_ret
        exact ⟨_, rfl, by rw [HE.out]; simp; constructor <;> intro h <;> omega, HW.out⟩
  · go_loopw [11] (fun i wr => ∃ k : Nat, i = .int .i64 k ∧ k ≤ ps.length ∧ Hid (ps.take k = qs.take k) ∧ Hid (Below w.heap.size w wr)) (fun i _ => ps.length - (intOf i).toNat)
    case atStart => exact ⟨0, rfl, Nat.zero_le _, Lib.hid rfl, Lib.hid (Below.refl _ _)⟩
    case round =>
      obtain ⟨k, rfl, hk, HT, HW⟩ := hrel
      by_cases hlt : k < ps.length
      · have hl1 : k < ps.length := by omega
        have hl2 : k < qs.length := by omega
        obtain ⟨p, hp⟩ : ∃ p, ps[k]? = some p := ⟨_, List.getElem?_eq_getElem hl1⟩
        obtain ⟨q, hq⟩ : ∃ q, qs[k]? = some q := ⟨_, List.getElem?_eq_getElem hl2⟩
        obtain ⟨b1, f1, rfl, hb1, c1⟩ := (HA.out.below HW.out).at (by omega)
        obtain ⟨b2, f2, rfl, hb2, c2⟩ := (HB.out.below HW.out).at (by omega)
        have p0 := c1 k p hp
        have q0 := c2 k q hq
        have HP := Lib.hid hp
        have HQ := Lib.hid hq
        have HD := Lib.hid (HW.out.drew)
        have p0' := cell_drew p0
        have q0' := cell_drew q0
        clear c1 c2 hp hq p0 q0 hb1 hb2
        by_cases he : p = q
        · subst he
          have hab : (p != p) = false := by simp
          have HN := Lib.hid (take_next HT.out HP.out HQ.out)
          go_upto_region 4 with (fail)
          go_region
          all_goals go_wp2
          all_goals go_roundw
          all_goals first
            | exact ⟨k + 1, by go_num, by omega, HN, HD⟩
            | (simp only [intOf]; omega)
        · have HNE : Hid ((false = true) ↔ ps = qs) := Lib.hid ⟨fun h => (by cases h), fun h => absurd h (take_ne HP.out HQ.out he)⟩
          have hab : (p != q) = true := by simpa using he
          clear he
          go_upto_region 4 with (fail)
          go_region
          all_goals go_wp2
          all_goals go_ret
          all_goals exact ⟨_, rfl, HNE.out, HD.out⟩
      · have hkk : k = min ps.length qs.length := by omega
        have HE := Lib.hid (take_all HT.out hkk)
        clear hkk
        go_wp2
        go_ret
        exact ⟨_, rfl, by rw [HE.out]; simp; constructor <;> intro h <;> omega, HW.out⟩
end Go.Proofs.YtppgdigcopkeiaaDoor
namespace Go.Proofs.YtppgdigcopkeiaaDoor
open Go Go.RowKit Go.ChangeShapes Go.WideShapes Go.Deep
theorem cells5 : Tryd.prog.cellsOf 5 = 1 := by kernel_rfl
set_option maxRecDepth 100000 in
theorem open_code {H : Type} {enc : TypeId × Value → H} {W : World} {base : Nat} {v1 : Value} {d1 : DataW H} {p1 : List MemPlace} (hval : Value.okWide Tryd.prog W .any base 47 v1) (h1 : DataW.Trod enc Tryd.prog W 0 (fun _ => true) true 47 v1 d1 p1) :
    ∃ oa len cap, v1 = .slice oa len cap ∧ HoldsBytes W oa len ∧ len ≤ cap := by
  obtain ⟨a1, len, cap, rfl⟩ := okWide_slice Tryd.underlying47 hval
  obtain ⟨fuel, hf⟩ := h1
  rcases open_ints Tryd.underlying47 Tryd.underlying5 cells5 hf with ⟨hcs, hx⟩ | ⟨a, len', cap', zs, hcs, _, hl, hm, hz, hx, hcell, hwz⟩
  · simp [Value.cells] at hcs
    obtain ⟨rfl, rfl, rfl⟩ := hcs
    exact ⟨none, 0, 0, rfl, .inl rfl, Nat.le_refl _⟩
  · simp [Value.cells] at hcs
    obtain ⟨rfl, rfl, rfl⟩ := hcs
    simp only [if_true] at hz
    refine ⟨some a, len, cap, rfl, ?_, hl⟩
    by_cases h0 : len = 0
    · exact .inl h0
    · obtain ⟨ab, ao, spot⟩ := a
      have hspot : spot = none := by simpa [Addr.add] using World.cell?_spot (hcell 0 (by omega))
      subst hspot
      have c0 := hcell 0 (by omega)
      refine .inr ⟨ab, ao, rfl, ?_, fun j hj => ?_⟩
      · rw [Addr.add_lit] at c0
        exact World.block_lt_of_cell? _ _ c0
      · have hcj := hcell j (by omega)
        rw [Addr.add_lit] at hcj
        have hb := range_u8 hwz j
        rw [← List.getD_eq_getElem?_getD] at hb
        obtain ⟨z, hz'⟩ : ∃ z, zs.getD j 0 = z := ⟨_, rfl⟩
        rw [hz'] at hb hcj
        have hzz : ((z.toNat : Nat) : Int) = z := Int.toNat_of_nonneg hb.1
        exact ⟨z.toNat, by omega, by rw [hcj, hzz]⟩
end Go.Proofs.YtppgdigcopkeiaaDoor
namespace Go.Proofs.YtppgdigcopkeiaaDoor
open Go Go.RowKit Sg
theorem cut_one (s : ByteArray) (i : Nat) : (s.extract i (i + 1)).data.toList = (s.data.toList.drop i).take 1 := by
  rw [ByteArray.data_extract, Array.toList_extract]
  simp [List.extract_eq_take_drop, Nat.add_sub_cancel_left]
theorem cut_at {s : ByteArray} {i : Nat} {b c : UInt8} (h : s.data.toList[i]? = some b) : ((s.extract i (i + 1)).toList == [c]) = (b == c) := by
  rw [ByteArray.toList_eq, cut_one]
  have hd : s.data.toList.drop i = b :: s.data.toList.drop (i + 1) := by
    have hl := (List.getElem?_eq_some_iff.1 h)
    obtain ⟨h1, h2⟩ := hl
    rw [List.drop_eq_getElem_cons h1, h2]
  rw [hd]
  simp
set_option maxRecDepth 100000 in
set_option maxHeartbeats 1600000 in
theorem sgLetter_any (s : ByteArray) (c : UInt8) (hs : s.size ≤ 1000) (w : World) :
    Calls Tryd.prog 40 #[.string s, .string ⟨#[c]⟩] w fun e w' => e = .returned (.bool (decide (c ∈ s.data.toList))) ∧ w' = w := by
  have hsz : s.data.toList.length = s.size := by rw [Array.length_toList]; rfl
  have HSZ := Lib.hid hsz
  clear hsz
  go_enter Tryd.func40, Tryd.ntmps40
  go_wp2
  go_loopw [8] (fun i wr => ∃ k : Nat, i = .int .i64 k ∧ k ≤ s.size ∧ Hid (c ∉ s.data.toList.take k) ∧ wr = w) (fun i _ => s.size - (intOf i).toNat)
  case atStart => exact ⟨0, rfl, Nat.zero_le _, Lib.hid (by simp), rfl⟩
  case round =>
    obtain ⟨k, rfl, hk, hno, rfl⟩ := hrel
    by_cases hlt : k < s.size
    · obtain ⟨b, hb⟩ : ∃ b, s.data.toList[k]? = some b := ⟨_, List.getElem?_eq_getElem (by rw [HSZ.out]; exact hlt)⟩
      have hcut := cut_at (c := c) hb
      have hk0 : (0 : Int) ≤ (k : Int) := by omega
      have hk1 : (k : Int) ≤ (k : Int) + 1 := by omega
      have hk2 : (k : Int) + 1 ≤ (s.size : Int) := by omega
      have HB := Lib.hid hb
      clear hb
      by_cases hbc : b = c
      · have HIN : Hid (decide (c ∈ s.data.toList) = true) := Lib.hid (decide_eq_true (by rw [← hbc]; exact List.mem_of_getElem? HB.out))
        rw [show (b == c) = true by simpa using hbc] at hcut
        clear hbc
        go_wp2
        go_ret
        exact ⟨by rw [HIN.out]; rfl, rfl⟩
      · have HNO : Hid (c ∉ s.data.toList.take (k + 1)) := Lib.hid (by
          rw [List.take_add_one, HB.out]
          simp only [Option.toList_some, List.mem_append, List.mem_singleton]
          rintro (h | h)
          · exact hno.out h
          · exact hbc h.symm)
        rw [show (b == c) = false by simpa using hbc] at hcut
        clear hbc
        go_wp2
        go_roundw
        case rel => exact ⟨k + 1, by go_num, by omega, HNO, trivial⟩
        case measure => simp only [intOf]; omega
    · obtain rfl : k = s.size := by omega
      have HIN : Hid (decide (c ∈ s.data.toList) = false) := Lib.hid (decide_eq_false (by have := hno.out; rwa [← HSZ.out, List.take_length] at this))
      go_wp2
      go_ret
      exact ⟨by rw [HIN.out]; rfl, rfl⟩
theorem ofNat_inj {k n : Nat} (hk : k < 26) (hn : n < 26) (h : UInt8.ofNat (97 + k) = UInt8.ofNat (97 + n)) : k = n := by
  have h1 := congrArg UInt8.toNat h
  simp only [UInt8.toNat_ofNat'] at h1
  omega
theorem mem_pickP {ss : List Sc} {s k : Nat} {f : Nat → Bool} (hk : k < 26) : ∀ n, n ≤ 26 → (UInt8.ofNat (97 + k) ∈ (pickP ss s f n).data.toList ↔ k < n ∧ f (hits ss s k) = true)
  | 0, _ => by
    constructor
    · intro h; simp [pickP] at h
    · rintro ⟨h, _⟩; omega
  | n + 1, hn => by
    have ih := mem_pickP (ss := ss) (s := s) (f := f) hk n (by omega)
    cases hf : f (hits ss s n) with
    | true =>
      rw [pickP_yes hf, ByteArray.data_append, Array.toList_append, List.mem_append, ih]
      have hl : (letterB n).data.toList = [UInt8.ofNat (97 + n)] := rfl
      rw [hl, List.mem_singleton]
      constructor
      · rintro (⟨h1, h2⟩ | h)
        · exact ⟨by omega, h2⟩
        · obtain rfl := ofNat_inj hk (by omega) h
          exact ⟨by omega, hf⟩
      · rintro ⟨h1, h2⟩
        by_cases h : k = n
        · subst h; exact .inr rfl
        · exact .inl ⟨by omega, h2⟩
    | false =>
      rw [pickP_no hf, ih]
      constructor
      · rintro ⟨h1, h2⟩; exact ⟨by omega, h2⟩
      · rintro ⟨h1, h2⟩
        by_cases h : k = n
        · subst h; rw [hf] at h2; cases h2
        · exact ⟨by omega, h2⟩
theorem pickP_both {ss : List Sc} {s : Nat} {f g : Nat → Bool} : ∀ n, (∀ k, k < n → f (hits ss s k) = !g (hits ss s k)) → (pickP ss s f n).size + (pickP ss s g n).size = n
  | 0, _ => rfl
  | n + 1, h => by
    have ih := pickP_both n (fun k hk => h k (by omega))
    have h1 := h n (by omega)
    cases hg : g (hits ss s n) with
    | true =>
      rw [hg] at h1
      rw [pickP_no h1, pickP_yes hg, ByteArray.size_append, letterB_size]
      omega
    | false =>
      rw [hg] at h1
      rw [pickP_yes h1, pickP_no hg, ByteArray.size_append, letterB_size]
      omega
theorem nums_letter {k : Nat} (hk : k < 26) : strOfNums [((97 + k : Nat) : Int)] = letterB k :=
  below26 (p := fun k => strOfNums [((97 + k : Nat) : Int)] = letterB k) (by decide +kernel) hk
set_option maxRecDepth 100000 in
set_option maxHeartbeats 8000000 in
theorem lawVisible {w : World} {oa : Option Addr} {len cap : Nat} (h : HoldsBytes w oa len) (hlc : len ≤ cap) (hE : NameErrs w) :
    Calls Tryd.prog 8 #[.slice oa len cap] w fun e w' => e = .returned (.bool true) ∧ Below w.heap.size w w' := by
  by_cases hn : (1048576 : Int) < (len : Int)
  · clear h hE
    go_enter Tryd.func8, Tryd.ntmps8
    go_wp2
    go_ret
    exact ⟨rfl, Below.refl _ _⟩
  · have C := Lib.hid (drawVisibleNames_any h (by omega) hlc)
    have HE := Lib.hid hE
    clear h hE hlc
    go_enter Tryd.func8, Tryd.ntmps8
    go_wp2_with fail
    refine C.out.mono ?_
    rintro e w1 ⟨ss, ov, cv, s, rfl, hh, hl, hsI, hb1⟩
    have HF := Lib.hid (hl.fair (by omega))
    have hbA := (Below.refl w1.heap.size w1).alloc (Nat.le_refl _) (.cells #[.slice ov ss.length cv] 30)
    have HA := Lib.hid (belowS hb1 hbA)
    have HC := Lib.hid (hh.below hbA (Nat.le_refl _))
    have RB := Lib.hid (Row.new w1 [.slice ov ss.length cv] 30)
    have HEA := Lib.hid (HE.out.at HA.out)
    clear hh hl hsI hb1 hbA
    go_wp2_with fail
    refine (implVisible_any ss HF.out ov cv s _ HC.out HEA.out.nodes).mono ?_
    rintro e w2 ⟨n1, b, rfl, hv, hb2⟩
    have V1 := Lib.hid hv
    have X2 := Lib.hid hb2
    have r2 := (RB.out.below X2.out RB.out.lt).cell (i := 0) (v := .slice ov ss.length cv) (by rfl)
    clear hv hb2
    go_wp2_with fail
    refine (implFree_any ss HF.out ov cv s _ (HC.out.below X2.out (Nat.le_refl _)) (HEA.out.at X2.out).nodes).mono ?_
    rintro e w3 ⟨n2, b2, rfl, hv, hb3⟩
    have V2 := Lib.hid hv
    have X3 := Lib.hid (belowS X2.out hb3)
    have r3 := (RB.out.below X3.out RB.out.lt).cell (i := 0) (v := .slice ov ss.length cv) (by rfl)
    clear hv hb3 r2
    go_wp2_with fail
    refine (implClashes_any ss HF.out ov cv s _ (HC.out.below X3.out (Nat.le_refl _)) (HEA.out.at X3.out).nodes).mono ?_
    rintro e w4 ⟨n3, b3, rfl, hv, hb4⟩
    have V3 := Lib.hid hv
    have X4 := Lib.hid (belowS X3.out hb4)
    have r4 := (RB.out.below X4.out RB.out.lt).cell (i := 0) (v := .slice ov ss.length cv) (by rfl)
    clear hv hb4 r3
    go_wp2_with fail
    refine (specVisible_any ss HF.out.fits ov cv s _ (HC.out.below X4.out (Nat.le_refl _))).mono ?_
    rintro e w5 ⟨m1, q1, rfl, hv, hb5⟩
    obtain ⟨rfl, rfl⟩ := hv.same V1.out
    have X5 := Lib.hid (belowS X4.out hb5)
    have r5 := (RB.out.below X5.out RB.out.lt).cell (i := 0) (v := .slice ov ss.length cv) (by rfl)
    clear hv hb5 r4
    go_wp2_with fail
    refine (specFree_any ss HF.out.fits ov cv s _ (HC.out.below X5.out (Nat.le_refl _))).mono ?_
    rintro e w6 ⟨m2, q2, rfl, hv, hb6⟩
    obtain ⟨rfl, rfl⟩ := hv.same V2.out
    have X6 := Lib.hid (belowS X5.out hb6)
    have r6 := (RB.out.below X6.out RB.out.lt).cell (i := 0) (v := .slice ov ss.length cv) (by rfl)
    clear hv hb6 r5
    go_wp2_with fail
    refine (specClashes_any ss HF.out.fits ov cv s _ (HC.out.below X6.out (Nat.le_refl _))).mono ?_
    rintro e w7 ⟨m3, q3, rfl, hv, hb7⟩
    obtain ⟨rfl, rfl⟩ := hv.same V3.out
    have X7 := Lib.hid (belowS X6.out hb7)
    clear hv hb7 r6
    have hs1 : (m1.toList == m1.toList) = true := by simp
    have hs2 : (m2.toList == m2.toList) = true := by simp
    have hs3 : (m3.toList == m3.toList) = true := by simp
    by_cases hS : HasScope ss s
    · obtain ⟨s', rfl⟩ : ∃ s' : Nat, s = (s' : Int) := ⟨s.toNat, by have := hS.2.1; omega⟩
      obtain ⟨h1, rfl⟩ : m1 = pickP ss s' (fun m => inB (m : Int) 1 100) 26 ∧ q1 = true := by
        rcases V1.out with ⟨h1, _⟩ | ⟨_, h2, h3⟩
        · exact absurd hS h1
        · exact ⟨by rw [h2, Int.toNat_natCast], h3⟩
      obtain ⟨h2, rfl⟩ : m2 = pickP ss s' (fun m => inB (m : Int) 0 0) 26 ∧ q2 = true := by
        rcases V2.out with ⟨h1, _⟩ | ⟨_, h2, h3⟩
        · exact absurd hS h1
        · exact ⟨by rw [h2, Int.toNat_natCast], h3⟩
      obtain ⟨h3, rfl⟩ : m3 = pickP ss s' (fun m => inB (m : Int) 2 100) 26 ∧ q3 = true := by
        rcases V3.out with ⟨h1, _⟩ | ⟨_, h2, h3⟩
        · exact absurd hS h1
        · exact ⟨by rw [h2, Int.toNat_natCast], h3⟩
      have HS := Lib.hid hS
      have z1 : m1.size ≤ 26 := by rw [h1]; exact pickP_size _ _ _ _
      have z2 : m2.size ≤ 26 := by rw [h2]; exact pickP_size _ _ _ _
      have z3 : m3.size ≤ 26 := by rw [h3]; exact pickP_size _ _ _ _
      have HSUM : Hid (m1.size + m2.size = 26) := Lib.hid (by
        rw [h1, h2]
        refine pickP_both 26 fun k _ => ?_
        have := hits_le hS.1 s' k
        simp only [inB]
        by_cases h0 : hits ss s' k = 0
        · rw [h0]; decide
        · rw [decide_eq_true (show (1 : Int) ≤ (hits ss s' k : Int) by omega), decide_eq_true (show (hits ss s' k : Int) ≤ 100 by omega), decide_eq_true (show (0 : Int) ≤ (hits ss s' k : Int) by omega), decide_eq_false (show ¬ (hits ss s' k : Int) ≤ 0 by omega)]
          rfl)
      have HM := Lib.hid (And.intro h1 (And.intro h2 h3))
      have HW0 : Hid (Below w7.heap.size w7 w7) := Lib.hid (Below.refl _ _)
      clear hS V1 V2 V3 h1 h2 h3
      go_wp2
      go_loopw [17] (fun i wr => ∃ k : Nat, i = .int .u8 (97 + (k : Int)) ∧ k ≤ 26 ∧ Hid (Below w7.heap.size w7 wr)) (fun i _ => 123 - (intOf i).toNat)
      case atStart => exact ⟨0, rfl, Nat.zero_le _, HW0⟩
      case round =>
        obtain ⟨k, rfl, hk, HW⟩ := hrel
        by_cases hlt : k < 26
        · have hle : 97 + (k : Int) ≤ 122 := by omega
          have hletter : strOfNums [97 + (k : Int)] = letterB k := by rw [← nums_letter hlt]; congr 2
          have hconv := conv_byte wr (97 + (k : Int))
          rw [hletter] at hconv
          have hwrap : IntKind.u8.wrap (97 + (k : Int) + 1) = 97 + ((k + 1 : Nat) : Int) := by rw [IntWalk.u8_in _ (by omega)]; omega
          have HBA := Lib.hid (belowS X7.out (HW.out.alloc HW.out.size (.cells #[.int .u8 (97 + (k : Int))] 5)))
          have HBB := Lib.hid (HW.out.alloc HW.out.size (.cells #[.int .u8 (97 + (k : Int))] 5))
          have r8 := (RB.out.below HBA.out RB.out.lt).cell (i := 0) (v := .slice ov ss.length cv) (by rfl)
          have HM1 : Hid (decide (UInt8.ofNat (97 + k) ∈ m1.data.toList) = inB (hits ss s' k : Int) 1 100) := Lib.hid (by
            rw [HM.out.1, Bool.eq_iff_iff, decide_eq_true_iff, mem_pickP hlt 26 (Nat.le_refl _)]
            exact ⟨fun h => h.2, fun h => ⟨hlt, h⟩⟩)
          have HM2 : Hid (decide (UInt8.ofNat (97 + k) ∈ m2.data.toList) = inB (hits ss s' k : Int) 0 0) := Lib.hid (by
            rw [HM.out.2.1, Bool.eq_iff_iff, decide_eq_true_iff, mem_pickP hlt 26 (Nat.le_refl _)]
            exact ⟨fun h => h.2, fun h => ⟨hlt, h⟩⟩)
          have HM3 : Hid (decide (UInt8.ofNat (97 + k) ∈ m3.data.toList) = inB (hits ss s' k : Int) 2 100) := Lib.hid (by
            rw [HM.out.2.2, Bool.eq_iff_iff, decide_eq_true_iff, mem_pickP hlt 26 (Nat.le_refl _)]
            exact ⟨fun h => h.2, fun h => ⟨hlt, h⟩⟩)
          have HOK : Hid (ownOk ss (s' : Int) (letterB k)) := Lib.hid ⟨HS.out, nameB_letter hlt⟩
          go_wp2_with fail
          refine (implLookUp_any ss HF.out ov cv (s' : Int) (letterB k) _ (HC.out.below HBA.out (Nat.le_refl _)) (HEA.out.at HBA.out)).mono ?_
          intro e w9 hgot
          obtain ⟨o9, c9, ps, b9, rfl, hv9, -, -, hb9⟩ := hgot.val
          obtain hps : ps.length = hits ss s' k := by
            rcases hv9 with ⟨h1, _⟩ | ⟨_, h2, _⟩
            · exact absurd HOK.out h1
            · rw [h2, Int.toNat_natCast]; rfl
          have hpl : ps.length ≤ 25 := by rw [hps]; exact hits_le HS.out.1 s' k
          have HW9 := Lib.hid (belowS HBB.out hb9)
          have C1 : Hid (Calls Tryd.prog 40 #[.string m1, .string (letterB k)] w9 fun e w' => e = .returned (.bool (decide (UInt8.ofNat (97 + k) ∈ m1.data.toList))) ∧ w' = w9) := Lib.hid (sgLetter_any m1 (UInt8.ofNat (97 + k)) (by omega) w9)
          have C2 : Hid (Calls Tryd.prog 40 #[.string m2, .string (letterB k)] w9 fun e w' => e = .returned (.bool (decide (UInt8.ofNat (97 + k) ∈ m2.data.toList))) ∧ w' = w9) := Lib.hid (sgLetter_any m2 (UInt8.ofNat (97 + k)) (by omega) w9)
          have C3 : Hid (Calls Tryd.prog 40 #[.string m3, .string (letterB k)] w9 fun e w' => e = .returned (.bool (decide (UInt8.ofNat (97 + k) ∈ m3.data.toList))) ∧ w' = w9) := Lib.hid (sgLetter_any m3 (UInt8.ofNat (97 + k)) (by omega) w9)
          rw [HM1.out, ← hps] at C1
          rw [HM2.out, ← hps] at C2
          rw [HM3.out, ← hps] at C3
          clear hgot hv9 hb9 r8 hps hconv hletter HOK
          generalize letterB k = Lk at *
          generalize ps.length = pn at *
          by_cases h0 : pn = 0
          · have e1 : inB ((pn : Nat) : Int) 1 100 = false := by rw [h0]; rfl
            have e2 : inB ((pn : Nat) : Int) 0 0 = true := by rw [h0]; rfl
            have e3 : inB ((pn : Nat) : Int) 2 100 = false := by rw [h0]; rfl
            have k0 : ¬ (0 : Int) < ((pn : Nat) : Int) := by omega
            have k1 : ¬ (1 : Int) < ((pn : Nat) : Int) := by omega
            rw [e1] at C1
            rw [e2] at C2
            rw [e3] at C3
            clear h0 e1 e2 e3
            go_wp2_with fail
            refine C1.out.mono ?_
            rintro e w10 ⟨rfl, rfl⟩
            go_wp2_with fail
            refine C2.out.mono ?_
            rintro e w11 ⟨rfl, rfl⟩
            go_wp2_with fail
            refine C3.out.mono ?_
            rintro e w12 ⟨rfl, rfl⟩
            go_wp2
            go_roundw
            case rel => exact ⟨k + 1, by congr 1, by omega, HW9⟩
            case measure => simp only [intOf]; omega
          · by_cases h1 : pn = 1
            · have e1 : inB ((pn : Nat) : Int) 1 100 = true := by rw [h1]; rfl
              have e2 : inB ((pn : Nat) : Int) 0 0 = false := by rw [h1]; rfl
              have e3 : inB ((pn : Nat) : Int) 2 100 = false := by rw [h1]; rfl
              have k0 : (0 : Int) < ((pn : Nat) : Int) := by omega
              have k1 : ¬ (1 : Int) < ((pn : Nat) : Int) := by omega
              rw [e1] at C1
              rw [e2] at C2
              rw [e3] at C3
              clear h0 h1 e1 e2 e3
              go_wp2_with fail
              refine C1.out.mono ?_
              rintro e w10 ⟨rfl, rfl⟩
              go_wp2_with fail
              refine C2.out.mono ?_
              rintro e w11 ⟨rfl, rfl⟩
              go_wp2_with fail
              refine C3.out.mono ?_
              rintro e w12 ⟨rfl, rfl⟩
              go_wp2
              go_roundw
              case rel => exact ⟨k + 1, by congr 1, by omega, HW9⟩
              case measure => simp only [intOf]; omega
            · have e1 : inB ((pn : Nat) : Int) 1 100 = true := by simp [inB]; omega
              have e2 : inB ((pn : Nat) : Int) 0 0 = false := by simp [inB]; omega
              have e3 : inB ((pn : Nat) : Int) 2 100 = true := by simp [inB]; omega
              have k0 : (0 : Int) < ((pn : Nat) : Int) := by omega
              have k1 : (1 : Int) < ((pn : Nat) : Int) := by omega
              rw [e1] at C1
              rw [e2] at C2
              rw [e3] at C3
              clear h0 h1 e1 e2 e3
              go_wp2_with fail
              refine C1.out.mono ?_
              rintro e w10 ⟨rfl, rfl⟩
              go_wp2_with fail
              refine C2.out.mono ?_
              rintro e w11 ⟨rfl, rfl⟩
              go_wp2_with fail
              refine C3.out.mono ?_
              rintro e w12 ⟨rfl, rfl⟩
              go_wp2
              go_roundw
              case rel => exact ⟨k + 1, by congr 1, by omega, HW9⟩
              case measure => simp only [intOf]; omega
        · obtain rfl : k = 26 := by omega
          have hsum : ((m1.size : Int) + (m2.size : Int) == 26) = true := by have := HSUM.out; simp; omega
          go_wp2
          go_ret
          exact ⟨rfl, belowS HA.out (belowS X7.out HW.out)⟩
    · obtain rfl : q1 = false := by
        rcases V1.out with ⟨_, _, h3⟩ | ⟨h1, _⟩
        · exact h3
        · exact absurd h1 hS
      obtain rfl : q2 = false := by
        rcases V2.out with ⟨_, _, h3⟩ | ⟨h1, _⟩
        · exact h3
        · exact absurd h1 hS
      obtain rfl : q3 = false := by
        rcases V3.out with ⟨_, _, h3⟩ | ⟨h1, _⟩
        · exact h3
        · exact absurd h1 hS
      clear hS V1 V2 V3
      go_wp2
      go_ret
      exact ⟨rfl, belowS HA.out X7.out⟩
end Go.Proofs.YtppgdigcopkeiaaDoor
