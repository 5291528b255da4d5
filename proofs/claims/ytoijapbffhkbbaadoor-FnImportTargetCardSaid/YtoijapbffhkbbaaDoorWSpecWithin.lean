/-
  The walks of the given l2In, WithinOf and CommonScope. Condition: the argument's memory holds the graph.
-/
import Derived.Test.YtoijapbffhkbbaaDoorWMarkGraph
namespace Go.Proofs.YtoijapbffhkbbaaDoor
open Go Go.RowKit
set_option maxRecDepth 100000 in
theorem l2In_any (xs : List Int) (oa : Option Addr) (cap : Nat) (n : Int) (w : World) (hn : xs.length < 2 ^ 40) (h : HoldsInts w oa xs) :
    Calls Tryd.prog 82 #[.slice oa xs.length cap, .int .i64 n] w fun e w' => e = .returned (.bool (decide (n ∈ xs))) ∧ Below w.heap.size w w' := by
  have K := Lib.hid h
  clear h
  go_enter Tryd.func82, Tryd.ntmps82
  go_wp2
  go_loopw [9] (fun i wr => ∃ k : Nat, i = .int .i64 k ∧ k ≤ xs.length ∧ Hid (n ∉ xs.take k) ∧ Below w.heap.size w wr) (fun i _ => xs.length - (intOf i).toNat)
  case atStart => exact ⟨0, rfl, Nat.zero_le _, Lib.hid (by simp), Below.refl _ _⟩
  case round =>
    obtain ⟨k, rfl, hk, hno, hb⟩ := hrel
    by_cases hlt : k < xs.length
    · obtain ⟨x, hx⟩ : ∃ x, xs[k]? = some x := ⟨_, List.getElem?_eq_getElem hlt⟩
      obtain ⟨b1, f1, rfl, hb1, q1⟩ := K.out.at (by omega)
      have a0 := (hb.cell (p := ⟨b1, f1 + k, none⟩) hb1).trans (q1 k x hx)
      have HX := Lib.hid hx
      clear hx q1
      by_cases he : x = n
      · have HM : Hid (n ∈ xs) := Lib.hid (by rw [← he]; exact List.mem_of_getElem? HX.out)
        have hq : (x == n) = true := by simpa using he
        clear he
        go_wp2
        go_ret
        exact ⟨by simp [HM.out], hb⟩
      · have HN : Hid (n ∉ xs.take (k + 1)) := Lib.hid (by
          rw [List.take_add_one, HX.out]
          simp only [Option.toList_some, List.mem_append, List.mem_singleton, not_or]
          exact ⟨hno.out, fun e => he e.symm⟩)
        have hq : (x == n) = false := by simpa using he
        clear he
        go_wp2
        go_roundw
        case rel => exact ⟨k + 1, by go_num, by omega, HN, hb⟩
        case measure => simp only [intOf]; omega
    · obtain rfl : k = xs.length := by omega
      have HN : Hid (n ∉ xs) := Lib.hid (by have := hno.out; rwa [List.take_length] at this)
      go_wp2
      go_ret
      exact ⟨by simp [HN.out], hb⟩
theorem mem_natInts {l : List Nat} {n : Nat} : (n : Int) ∈ natInts l ↔ n ∈ l := by
  unfold natInts
  rw [List.mem_map]
  constructor
  · rintro ⟨m, hm, e⟩
    obtain rfl : m = n := by omega
    exact hm
  · exact fun h => ⟨n, h, rfl⟩
theorem natInts_length (l : List Nat) : (natInts l).length = l.length := by simp [natInts]
/-- What l2Chain leaves, as a list that holds numbers. -/
theorem NumsGot.val {l : List Nat} {w w' : World} {e : Ending} (h : NumsGot l w e w') : ∃ oa cap, e = .returned (.slice oa (natInts l).length cap) ∧ HoldsInts w' oa (natInts l) ∧ Below w.heap.size w w' := by
  obtain ⟨v, rfl, hr, hb⟩ := h
  obtain ⟨oa, cap, rfl, hh⟩ := holdsInts_of_owns hr
  exact ⟨oa, cap, rfl, hh, hb⟩
/-- Is a scope one of a chain? As a call answers it. -/
theorem within_snoc (ss : List Sc) (s k : Nat) : ((List.range (k + 1)).filter fun m => decide (s ∈ chainP ss m)) = ((List.range k).filter fun m => decide (s ∈ chainP ss m)) ++ if s ∈ chainP ss k then [k] else [] := by
  rw [List.range_succ, List.filter_append]
  congr 1
  by_cases h : s ∈ chainP ss k
  · simp [h]
  · simp [h]
theorem within_length (ss : List Sc) (s k : Nat) : ((List.range k).filter fun m => decide (s ∈ chainP ss m)).length ≤ k := by
  have := List.length_filter_le (fun m => decide (s ∈ chainP ss m)) (List.range k)
  simpa using this
set_option maxRecDepth 100000 in
set_option maxHeartbeats 1600000 in
theorem specWithin_any (ss : List Sc) (hf : FitsScopes ss) (oa : Option Addr) (cap : Nat) (n : Int) (w : World) (hc : HoldsScopes w oa ss) :
    Calls Tryd.prog 49 #[.agg #[.slice oa ss.length cap], .int .i64 n] w (ListGot2 (HasScope ss n) (withinP ss n.toNat) w) := by
  have hb0 := ((Below.refl w.heap.size w).alloc (Nat.le_refl _) (.cells #[.slice oa ss.length cap] 30)).alloc (by simp) (.cells #[] 3)
  have C := Lib.hid (specScope_any ss hf oa cap n _ (hc.below hb0 (Nat.le_refl _)))
  have R := Lib.hid ((Row.new w [.slice oa ss.length cap] 30).alloc (.cells #[] 3))
  have hown0 : ((w.alloc (.cells #[.slice oa ss.length cap] 30)).alloc (.cells #[] 3)).ownsRow w.heap.size 3 1 (.slice (some ⟨w.heap.size + 1, 0, none⟩) 0 0) 0 [] := by
    have h0 := World.ownsRow_made (base := w.heap.size) (e := 3) (size := 1) (w.alloc (.cells #[.slice oa ss.length cap] 30)) #[] 0 (by simp) (by unfold maxLen; omega) rfl
    rw [World.size_alloc] at h0
    exact h0
  have HB0 := Lib.hid hb0
  have HC := Lib.hid hc
  have HO := Lib.hid hown0
  clear hf hc hb0 hown0
  go_enter Tryd.func49, Tryd.ntmps49
  go_wp2_with fail
  refine C.out.mono ?_
  rintro e w1 ⟨b, rfl, hv, hb⟩
  have HB := Lib.hid (HB0.out.trans (hb.mono HB0.out.size))
  have R1 := Lib.hid (R.out.below hb R.out.lt)
  have HO1 := Lib.hid (ownsRow_below HO.out hb)
  have c1 := R1.out.cell (i := 0) (by rfl)
  have HV := Lib.hid hv
  clear hb hv
  cases b
  · have HN : Hid (¬ HasScope ss n) := Lib.hid (fun h => by have := HV.out.2 h; cases this)
    go_wp2
    go_ret2
    exact .inl ⟨HN.out, _, rfl, HB.out⟩
  · obtain ⟨hv, h0, h1⟩ := HV.out.1 rfl
    obtain ⟨s, rfl⟩ : ∃ s : Nat, n = (s : Int) := ⟨n.toNat, by omega⟩
    have HH := Lib.hid (And.intro hv (And.intro h0 h1))
    have h6 := hv.count.2
    have HK := Lib.hid hv.climbs
    clear hv h0 h1
    go_wp2
    go_loopw [6, 17] (fun v i wr => ∃ k : Nat, i = .int .i64 k ∧ k ≤ ss.length ∧ Row wr w.heap.size 30 [.slice oa ss.length cap] ∧ wr.ownsRow w.heap.size 3 1 v ((List.range k).filter fun m => decide (s ∈ chainP ss m)).length (numVals ((List.range k).filter fun m => decide (s ∈ chainP ss m))) ∧ Below w.heap.size w wr) (fun _ i _ => ss.length - (intOf i).toNat)
    case atStart => exact ⟨0, rfl, Nat.zero_le _, R1.out, HO1.out, HB.out⟩
    case round =>
      obtain ⟨k, rfl, hk, hR, hrow, hb⟩ := hrel
      have HROW := Lib.hid hrow
      have HBR := Lib.hid hb
      have HRR := Lib.hid hR
      by_cases hlt : k < ss.length
      · have C2 := Lib.hid (specL2Chain_any ss HH.out.1 oa cap k hlt _ (HC.out.below hb (Nat.le_refl _)))
        have g0 := hR.cell (i := 0) (by rfl)
        have hcb : (chainP ss k).length ≤ 6 := by have := chain_bound HK.out hlt; omega
        have hpl := within_length ss s k
        have HST := Lib.hid (within_snoc ss s k)
        generalize hpe : ((List.range k).filter fun m => decide (s ∈ chainP ss m)) = pre at hrow hpl
        rw [hpe] at HROW HST
        have hbs := hb.size
        clear hR hb hrow hpe
        go_wp2_with fail
        refine C2.out.mono ?_
        intro e w2 hgot
        obtain ⟨o2, cap2, rfl, hh2, hb2⟩ := hgot.val
        have HB2 := Lib.hid (HBR.out.trans (hb2.mono hbs))
        have R2 := Lib.hid (HRR.out.below hb2 HRR.out.lt)
        have HR2 := Lib.hid (ownsRow_below HROW.out hb2)
        have H2 := Lib.hid hh2
        have HNL : Hid ((natInts (chainP ss k)).length < 2 ^ 40) := Lib.hid (by rw [natInts_length]; omega)
        clear hb2 hh2 hgot g0
        go_wp2_with fail
        refine (l2In_any (natInts (chainP ss k)) o2 cap2 (s : Int) _ HNL.out H2.out).mono ?_
        rintro e w3 ⟨rfl, hb3⟩
        have HB3 := Lib.hid (HB2.out.trans (hb3.mono HB2.out.size))
        have R3 := Lib.hid (R2.out.below hb3 R2.out.lt)
        have hrow3 := ownsRow_below HR2.out hb3
        have hbs3 := HB3.out.size
        have HR3 := Lib.hid hrow3
        have g3 := R3.out.cell (i := 0) (by rfl)
        have HMEM := Lib.hid (mem_natInts (l := chainP ss k) (n := s))
        clear hb3
        generalize hq : decide ((s : Int) ∈ natInts (chainP ss k)) = q
        have HQ := Lib.hid hq
        clear hq
        cases q
        · have HNO : Hid (¬ s ∈ chainP ss k) := Lib.hid (fun h => by have := HQ.out; simp [HMEM.out.2 h] at this)
          have HE : Hid (((List.range (k + 1)).filter fun m => decide (s ∈ chainP ss m)) = pre) := Lib.hid (by rw [HST.out, if_neg HNO.out, List.append_nil])
          clear hrow3
          go_wp2
          go_roundw
          case rel => exact ⟨k + 1, by go_num, by omega, R3.out, by rw [HE.out]; exact HR3.out, HB3.out⟩
          case measure => simp only [intOf]; omega
        · have HNO : Hid (s ∈ chainP ss k) := Lib.hid (HMEM.out.1 (by have := HQ.out; simpa using this))
          have HE : Hid (((List.range (k + 1)).filter fun m => decide (s ∈ chainP ss m)) = pre ++ [k]) := Lib.hid (by rw [HST.out, if_pos HNO.out])
          obtain ⟨i0, hi0, hz0, hz1, hz2⟩ := info_parts infoInt
          go_wp2_with (at_builtin; refine wpList_append_own _ rfl _ _ 50 rfl w.heap.size 3 i0 (.int .i64 0) 1 8 Tryd.underlying50 hi0 hz0 hz1 hz2 rfl (by decide) _ _ _ rfl (hrow3.alloc _) ⟨w3.heap.size, 0, none⟩ 1 1 [.int .i64 (k : Int)] rfl rfl ?c1 ?c2 ?c3 ?c4 ?c5 ?_)
          case c1 => exact cells_new _ _ _
          case c2 => intro u hu; simp only [List.mem_singleton] at hu; subst hu; rfl
          case c3 => unfold maxLen; omega
          case c4 => omega
          case c5 => simp only [World.size_alloc]; omega
          intro v' w4 hown' hgrow _
          have HB4 := Lib.hid (HB3.out.trans (below_append HR3.out hgrow (Nat.le_refl w.heap.size) hbs3))
          have HR4 : Hid (Row w4 w.heap.size 30 [.slice oa ss.length cap]) := Lib.hid ((R3.out.alloc _).grown hgrow (ownsRow_ne R3.out (by decide) HR3.out))
          have HO4 := Lib.hid hown'
          clear hrow3 hown' hgrow
          go_wp2
          go_roundw
          case rel => exact ⟨k + 1, by go_num, by omega, HR4.out, by rw [HE.out, List.length_append, numVals_snoc]; exact HO4.out, HB4.out⟩
          case measure => simp only [intOf]; omega
      · obtain rfl : k = ss.length := by omega
        clear hR hb hrow
        go_wp2
        go_ret2
        exact .inr ⟨HH.out, _, rfl, HROW.out, HBR.out⟩
end Go.Proofs.YtoijapbffhkbbaaDoor
