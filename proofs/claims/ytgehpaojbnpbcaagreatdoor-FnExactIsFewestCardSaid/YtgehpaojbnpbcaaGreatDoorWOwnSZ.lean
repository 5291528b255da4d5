/-
  The walks of the given OwnNames, l13Find, l1Sorted, CountNames and IsFresh. Condition: the argument's memory holds the graph.
-/
import Derived.Test.YtgehpaojbnpbcaaGreatDoorJFZ
import Derived.Test.YtgehpaojbnpbcaaGreatDoorJBZ
import Derived.Test.YtgehpaojbnpbcaaGreatDoorJAZ
namespace Go.Proofs.YtgehpaojbnpbcaaGreatDoor
open Go Go.RowKit Sg
attribute [local go_sem ↓] field_name
set_option maxRecDepth 100000 in
set_option maxHeartbeats 4000000 in
theorem specOwn_any (ss : List Sc) (hF : Fair ss) (oa : Option Addr) (cap : Nat) (w : World) (hc : HoldsScopes w oa ss) :
    Calls Tryz.prog 56 #[.agg #[.slice oa ss.length cap]] w fun e w' => ∃ (T : ByteArray) (ok : Bool), e = .returned (.tuple #[.string T, .bool ok]) ∧ ownR ss T ok ∧ Below w.heap.size w w' := by
  have hb0 := (Below.refl w.heap.size w).alloc (Nat.le_refl _) (.cells #[.slice oa ss.length cap] 28)
  have C := Lib.hid (specValid_any ss oa cap _ hF.fits (hc.below hb0 (Nat.le_refl _)))
  have R := Lib.hid (Row.new w [.slice oa ss.length cap] 28)
  have HB0 := Lib.hid hb0
  have HC := Lib.hid hc
  have HF := Lib.hid hF.fits
  clear hF hc hb0
  go_enter Tryz.func56, Tryz.ntmps56
  go_wp2_with fail
  refine C.out.mono ?_
  rintro e w1 ⟨b, rfl, hv, hb⟩
  have HB := Lib.hid (HB0.out.trans (hb.mono HB0.out.size))
  have R1 := Lib.hid (R.out.below hb R.out.lt)
  have c1 := R1.out.cell (i := 0) (by rfl)
  have HV := Lib.hid hv
  clear hb hv
  cases b
  · have HN : Hid (¬ Valid ss) := Lib.hid (fun h => by have := HV.out.2 h; cases this)
    go_wp2
    go_ret2
    exact ⟨_, _, rfl, .inl ⟨HN.out, rfl, rfl⟩, HB.out⟩
  · have HH := Lib.hid (HV.out.1 rfl)
    go_wp2_with fail
    refine (l1Places_any ss HH.out.count.2 HH.out.five oa cap 1 _ (HC.out.below HB.out (Nat.le_refl _))).mono ?_
    rintro e w2 ⟨u, rfl, hown, hb2⟩
    obtain ⟨ou, cu, rfl, hap⟩ := argPlaces_of_owns hown
    have HA := Lib.hid hap
    have HB2 := Lib.hid (HB.out.trans (hb2.mono HB.out.size))
    have R2 := Lib.hid (R1.out.below hb2 R1.out.lt)
    have hdl : (plsP ss 1).length ≤ 30 := by
      have h1 := plsOf_length 1 (placed 0 ss)
      have h2 := placed_bound 0 ss 6 5 HH.out.count.2 HH.out.five
      unfold plsP
      omega
    have HU := Lib.hid (ownU_all ss)
    have HPL : Hid (∀ p ∈ plsP ss 1, ∃ (i j : Nat) (c : Sc) (x : It) (b : UInt8), p = ((i : Int), (j : Int)) ∧ ss[i]? = some c ∧ c.items[j]? = some x ∧ itemAtP ss p.1 p.2 = some x ∧ x.name.data.toList = [b]) := Lib.hid (fun p hp => by
      unfold plsP plsOf at hp
      obtain ⟨⟨i, j, x⟩, hq, rfl⟩ := List.mem_map.1 hp
      obtain ⟨hq1, -⟩ := List.mem_filter.1 hq
      obtain ⟨c, h1, h2⟩ := placed_at hq1
      obtain ⟨b, hb, -, -⟩ := name_byte HH.out hq1
      exact ⟨i, j, c, x, b, rfl, h1, h2, placed_item hq1, hb⟩)
    have HUL : Hid (∀ k, (ownU ss ((plsP ss 1).take k)).length ≤ 1000) := Lib.hid (fun k => by
      have h1 : (ownU ss ((plsP ss 1).take k)).length ≤ (ownU ss (plsP ss 1)).length := by
        conv => rhs; rw [← List.take_append_drop k (plsP ss 1)]
        unfold ownU
        rw [List.flatMap_append, List.length_append]
        omega
      have h2 := own_small HH.out
      rw [← ownU_all] at h2
      unfold dclP at h2
      omega)
    obtain ⟨D, hD⟩ : ∃ D, plsP ss 1 = D := ⟨_, rfl⟩
    have HDE : Hid (ownU ss D = ownT ss) := Lib.hid (by rw [← hD]; exact HU.out)
    rw [hD] at HA HPL HUL hdl ⊢
    clear hown hap hb2 c1 hD
    go_wp2
    go_loopw [4, 13] (fun s i wr => ∃ k : Nat, i = .int .i64 k ∧ s = .string (bT (ownU ss (D.take k))) ∧ k ≤ D.length ∧ Hid (Below w2.heap.size w2 wr)) (fun _ i _ => D.length - (intOf i).toNat)
    case atStart => exact ⟨0, rfl, rfl, Nat.zero_le _, Lib.hid (Below.refl _ _)⟩
    case round =>
      obtain ⟨k, rfl, rfl, hk, hbr⟩ := hrel
      by_cases hlt : k < D.length
      · obtain ⟨p, hp⟩ : ∃ p, D[k]? = some p := ⟨_, List.getElem?_eq_getElem hlt⟩
        obtain ⟨i, j, c, x, b, rfl, hcs, hcx, hat, hxb⟩ := HPL.out p (List.mem_of_getElem? hp)
        obtain ⟨b1, f1, rfl, hb1, q1⟩ := (HA.out.below hbr.out).at (by omega)
        obtain ⟨y0, y1⟩ := q1 k _ hp
        dsimp only at y0 y1
        have hba := (Below.refl wr.heap.size wr).alloc (Nat.le_refl _) (.cells #[.int .i64 (i : Int), .int .i64 (j : Int)] 59)
        have RP := Row.new wr [.int .i64 (i : Int), .int .i64 (j : Int)] 59
        have p0 := RP.cell (i := 0) (v := .int .i64 (i : Int)) (by rfl)
        have p1 := RP.cell (i := 1) (v := .int .i64 (j : Int)) (by rfl)
        have HBA := Lib.hid (hbr.out.trans (hba.mono hbr.out.size))
        have HBW := Lib.hid (HB2.out.trans (HBA.out.mono HB2.out.size))
        have g1 : (wr.alloc (.cells #[.int .i64 (i : Int), .int .i64 (j : Int)] 59)).cell? ⟨w.heap.size, 0, none⟩ = some (.slice oa ss.length cap) := (R2.out.below HBA.out R2.out.lt).cell (i := 0) (by rfl)
        have C4 := Lib.hid (specAt_any ss HF.out oa cap i j c x hcs hcx _ (HC.out.below HBW.out (Nat.le_refl _)))
        have HTK : Hid (D.take (k + 1) = D.take k ++ [((i : Int), (j : Int))]) := Lib.hid (by rw [List.take_add_one, hp]; rfl)
        have HSN := Lib.hid (ownU_snoc ss (D.take k) ((i : Int), (j : Int)) hat)
        have hbs := bT_size (ownU ss (D.take k))
        have hul := HUL.out k
        have hxs : x.name.size ≤ 1 := by
          have h4 := congrArg List.length hxb
          rw [Array.length_toList] at h4
          exact Nat.le_of_eq h4
        have n1 : ¬ 9223372036854775807 < (bT (ownU ss (D.take k))).size + x.name.size := by omega
        clear hp hcs hcx hat hxb hba RP q1 hb1 hbs hul hxs
        go_wp2_with fail
        refine C4.out.mono ?_
        rintro e w4 ⟨rfl, hb4⟩
        have HB4 := Lib.hid (HBA.out.trans (hb4.mono HBA.out.size))
        clear hb4 y0 y1 p0 p1 g1
        unfold itV
        go_wp2
        go_roundw
        case rel => exact ⟨k + 1, by go_num, by rw [HTK.out, HSN.out, ← bT_append], by omega, HB4⟩
        case measure => simp only [intOf]; omega
      · obtain rfl : k = D.length := by omega
        have HE : Hid (bT (ownU ss (D.take D.length)) = bT (ownT ss)) := Lib.hid (by rw [List.take_length, HDE.out])
        have HBE := Lib.hid (HB2.out.trans (hbr.out.mono HB2.out.size))
        go_wp2
        go_ret2
        exact ⟨_, _, rfl, .inr ⟨HH.out, by rw [HE.out], rfl⟩, HBE.out⟩
set_option maxRecDepth 100000 in
theorem l13Find_any (s : ByteArray) (hs : s.size ≤ 1048576) (c : UInt8) (n : Int) (hn : n = (c.toNat : Int)) (w : World) :
    Calls Tryz.prog 55 #[.string s, .int .u8 n] w fun e w' => ∃ m : Int, e = .returned (.int .i64 m) ∧ decide (0 ≤ m) = decide (c ∈ s.data.toList) ∧ w' = w := by
  have hlen : s.data.toList.length = s.size := by rw [Array.length_toList]; rfl
  have HL := Lib.hid hlen
  subst hn
  clear hlen
  go_enter Tryz.func55, Tryz.ntmps55
  go_wp2
  go_loopw [5] (fun i wr => ∃ k : Nat, i = .int .i64 k ∧ k ≤ s.size ∧ wr = w ∧ Hid (∀ (j : Nat) (b : UInt8), j < k → s.data.toList[j]? = some b → b ≠ c)) (fun i _ => s.size - (intOf i).toNat)
  case atStart => exact ⟨0, rfl, Nat.zero_le _, rfl, Lib.hid (fun j b h => by omega)⟩
  case round =>
    obtain ⟨k, rfl, hk, rfl, hP⟩ := hrel
    by_cases hkl : k < s.size
    · have hkl' : k < s.data.toList.length := by rw [HL.out]; exact hkl
      have hsk : s.data.toList[k]'hkl' = s[k]'hkl := rfl
      by_cases hc : s[k]'hkl = c
      · have hc1 : ((((s[k]'hkl).toNat : Nat) : Int) == (c.toNat : Int)) = true := by rw [hc]; exact beq_self_eq_true _
        have HM : Hid (decide ((0 : Int) ≤ (k : Int)) = decide (c ∈ s.data.toList)) := Lib.hid (by
          have h1 : c ∈ s.data.toList := by rw [← hc, ← hsk]; exact List.getElem_mem _
          rw [decide_eq_true h1]
          simp)
        clear hsk hc
        go_wp2
        go_ret
        exact ⟨_, rfl, HM.out, rfl⟩
      · have hc1 : ((((s[k]'hkl).toNat : Nat) : Int) == (c.toNat : Int)) = false := by
          rw [beq_eq_false_iff_ne]; intro e; apply hc; apply UInt8.toNat_inj.1; omega
        have HP2 : Hid (∀ (j : Nat) (b : UInt8), j < k + 1 → s.data.toList[j]? = some b → b ≠ c) := Lib.hid (fun j b hj hb => by
          by_cases e : j = k
          · subst e
            rw [List.getElem?_eq_getElem hkl', hsk] at hb
            rintro rfl
            exact hc (Option.some.inj hb)
          · exact hP.out j b (by omega) hb)
        clear hsk hc
        go_wp2
        go_roundw
        case rel => exact ⟨k + 1, by go_num, by omega, by first | rfl | trivial, HP2⟩
        case measure => simp only [intOf]; omega
    · have HM : Hid (decide ((0 : Int) ≤ -1) = decide (c ∈ s.data.toList)) := Lib.hid (by
        rw [decide_eq_false (show ¬ c ∈ s.data.toList from fun h => by
          obtain ⟨j, hj⟩ := List.mem_iff_getElem?.1 h
          have := (List.getElem?_eq_some_iff.1 hj).1
          exact hP.out j c (by have := HL.out; omega) hj rfl)]
        rfl)
      go_wp2
      go_ret
      exact ⟨_, rfl, HM.out, rfl⟩
theorem byte_next {k : Nat} (hk : k < 26) : IntKind.u8.wrap ((97 + (k : Int)) + 1) = (97 + ((k + 1 : Nat) : Int)) :=
  below26 (p := fun k => IntKind.u8.wrap ((97 + (k : Int)) + 1) = (97 + ((k + 1 : Nat) : Int))) (by decide +kernel) hk
theorem ltr_one (O : List UInt8) (k : Nat) : bT O ++ strOfNums [97 + (k : Int)] = bT (O ++ [ltr k]) := by
  rw [bT_append, strOfNums_data]
  simp only [List.map_cons, List.map_nil]
  rw [show ((97 : Int) + (k : Int)).toNat = 97 + k by omega]
  rfl
/-- The bytes of the first texts. -/
def txtsB (xs : List ByteArray) : List UInt8 := xs.flatMap fun x => x.data.toList
set_option maxRecDepth 100000 in
set_option maxHeartbeats 4000000 in
theorem l1Sorted_any (xs : List ByteArray) (hx : ∀ x ∈ xs, x.size ≤ 1048576) (hn : xs.length ≤ 1048576) (b off cap : Nat) (w : World) (hc : ∀ (k : Nat) x, xs[k]? = some x → w.cell? ⟨b, off + k, none⟩ = some (.string x)) :
    Calls Tryz.prog 30 #[.slice (some ⟨b, off, none⟩) xs.length cap] w fun e w' => e = .returned (.string (bT (ltrUp (txtsB xs) 26))) ∧ Below w.heap.size w w' := by
  have HC := Lib.hid hc
  have HX := Lib.hid hx
  clear hc hx
  go_enter Tryz.func30, Tryz.ntmps30
  go_wp2
  go_loopw [3, 4] (fun o c wr => ∃ k : Nat, o = .string (bT (ltrUp (txtsB xs) k)) ∧ c = .int .u8 (97 + (k : Int)) ∧ k ≤ 26 ∧ Hid (Below w.heap.size w wr)) (fun _ c _ => 123 - (intOf c).toNat)
  case atStart => exact ⟨0, by first | rfl | trivial, by first | rfl | trivial, by omega, Lib.hid (Below.refl _ _)⟩
  case round =>
    obtain ⟨k, rfl, rfl, hk, hb⟩ := hrel
    by_cases hlt : k < 26
    · have hle : (97 + (k : Int)) ≤ 122 := by omega
      have hle2 : decide ((97 + (k : Int)) ≤ 122) = true := by simpa using hle
      have hln := ltr_nat hlt
      have hwr := byte_next hlt
      have hul := ltrUp_le (txtsB xs) k
      go_wp2
      go_loopw [5, 14] (fun t i wi => ∃ j : Nat, i = .int .i64 j ∧ t = .bool (decide (ltr k ∈ txtsB (xs.take j))) ∧ j ≤ xs.length ∧ Hid (Below w.heap.size w wi)) (fun _ i _ => xs.length - (intOf i).toNat)
      case atStart => exact ⟨0, rfl, by rw [List.take_zero]; simp [txtsB], Nat.zero_le _, hb⟩
      case round =>
        obtain ⟨j, rfl, rfl, hj, hb2⟩ := hrel
        by_cases hlt2 : j < xs.length
        · obtain ⟨x, hx⟩ : ∃ x, xs[j]? = some x := ⟨_, List.getElem?_eq_getElem hlt2⟩
          have cx := cellG hb2.out (HC.out j x hx)
          have hxs := HX.out x (List.mem_of_getElem? hx)
          have HTK : Hid (decide (ltr k ∈ txtsB (xs.take (j + 1))) = (decide (ltr k ∈ txtsB (xs.take j)) || decide (ltr k ∈ x.data.toList))) := Lib.hid (by
            rw [List.take_add_one, hx]
            unfold txtsB
            rw [Option.toList_some, List.flatMap_append]
            simp)
          obtain ⟨q, hq⟩ : ∃ q, decide (ltr k ∈ txtsB (xs.take j)) = q := ⟨_, rfl⟩
          rw [hq] at HTK ⊢
          clear hx hq
          cases q
          · go_wp2_with fail
            refine (l13Find_any x hxs (ltr k) (97 + (k : Int)) (by rw [hln]; simp) _).mono ?_
            rintro e w5 ⟨m, rfl, hm, rfl⟩
            have HM := Lib.hid hm
            obtain ⟨q2, hq2⟩ : ∃ q2, decide (0 ≤ m) = q2 := ⟨_, rfl⟩
            have HQ2 := Lib.hid hq2
            have hq3 : decide (m ≥ 0) = q2 := hq2
            clear hm
            go_wp2
            go_roundw
            case rel => exact ⟨j + 1, by go_num, by rw [HTK.out, Bool.false_or, ← HM.out, HQ2.out], by omega, hb2⟩
            case measure => simp only [intOf]; omega
          · go_wp2
            go_roundw
            case rel => exact ⟨j + 1, by go_num, by rw [HTK.out, Bool.true_or], by omega, hb2⟩
            case measure => simp only [intOf]; omega
        · obtain rfl : j = xs.length := by omega
          obtain ⟨q, hq⟩ : ∃ q, decide (ltr k ∈ txtsB (xs.take xs.length)) = q := ⟨_, rfl⟩
          have HQ : Hid (decide (ltr k ∈ txtsB xs) = q) := Lib.hid (by rw [List.take_length] at hq; exact hq)
          rw [hq]
          clear hq
          have hbs := bT_size (ltrUp (txtsB xs) k)
          have HLT := Lib.hid hlt
          cases q
          · have HU : Hid (ltrUp (txtsB xs) (k + 1) = ltrUp (txtsB xs) k) := Lib.hid (by
              show (if ltr k ∈ txtsB xs then _ else _) = _
              rw [if_neg (of_decide_eq_false HQ.out)])
            go_wp2
            go_roundw
            case rel => exact ⟨k + 1, by rw [HU.out], by first | rfl | trivial, by omega, hb2⟩
            case measure => simp only [intOf]; omega
          · have HU : Hid (ltrUp (txtsB xs) (k + 1) = ltrUp (txtsB xs) k ++ [ltr k]) := Lib.hid (by
              show (if ltr k ∈ txtsB xs then _ else _) = _
              rw [if_pos (of_decide_eq_true HQ.out)])
            have hconv := fun x => conv_one wr x
            have hsz : (strOfNums [97 + (k : Int)]).size = 1 := by rw [strOfNums_size]; rfl
            have n1 : ¬ 9223372036854775807 < (bT (ltrUp (txtsB xs) k)).size + (strOfNums [97 + (k : Int)]).size := by omega
            have HBX := Lib.hid (hb2.out.alloc hb2.out.size (.cells #[.int .u8 (97 + (k : Int))] 5))
            go_wp2
            go_roundw
            case rel => exact ⟨k + 1, by rw [HU.out, ← ltr_one], by first | rfl | trivial, by omega, HBX⟩
            case measure => simp only [intOf]; omega
    · obtain rfl : k = 26 := by omega
      have hgt : ¬ (97 + ((26 : Nat) : Int)) ≤ 122 := by omega
      go_wp2
      go_ret
      exact ⟨rfl, hb.out⟩
set_option maxRecDepth 100000 in
set_option maxHeartbeats 4000000 in
theorem specCount_any (ss : List Sc) (hF : Fair ss) (oa : Option Addr) (cap : Nat) (w : World) (hc : HoldsScopes w oa ss) :
    Calls Tryz.prog 31 #[.agg #[.slice oa ss.length cap]] w fun e w' => ∃ n : Int, e = .returned (.int .i64 n) ∧ cntR ss n ∧ Below w.heap.size w w' := by
  have hb0 := (Below.refl w.heap.size w).alloc (Nat.le_refl _) (.cells #[.slice oa ss.length cap] 28)
  have C := Lib.hid (specOwn_any ss hF oa cap _ (hc.below hb0 (Nat.le_refl _)))
  have HB0 := Lib.hid hb0
  have g0 := (Row.new w [.slice oa ss.length cap] 28).cell (i := 0) (by rfl)
  clear hF hc hb0
  go_enter Tryz.func31, Tryz.ntmps31
  go_wp2_with fail
  refine C.out.mono ?_
  rintro e w1 ⟨T, ok, rfl, hv, hb⟩
  have HB := Lib.hid (HB0.out.trans (hb.mono HB0.out.size))
  clear hb g0
  rcases hv with ⟨hv, rfl, rfl⟩ | ⟨hv, rfl, rfl⟩
  · have HN := Lib.hid hv
    clear hv
    go_wp2
    go_ret
    exact ⟨_, rfl, .inl ⟨HN.out, rfl⟩, HB.out⟩
  · have HV := Lib.hid hv
    have hsl := own_small hv
    have hbs := bT_size (ownT ss)
    have C5 := Lib.hid (l1Sorted_any [bT (ownT ss)] (by simp; omega) (by simp) w1.heap.size 0 1 (w1.alloc (.cells #[.string (bT (ownT ss))] 9)) (fun k x hk => by
      have hk0 : k = 0 := by have := (List.getElem?_eq_some_iff.1 hk).1; simpa using this
      subst hk0
      simp at hk
      subst hk
      simp))
    have HTB : Hid (txtsB [bT (ownT ss)] = ownT ss) := Lib.hid (by unfold txtsB; simp [bT_data])
    have HLS : Hid ((bT (ltrUp (txtsB [bT (ownT ss)]) 26)).size = cntL (ownT ss)) := Lib.hid (by rw [bT_size, HTB.out]; rfl)
    have HA := Lib.hid (HB.out.trans (((Below.refl w1.heap.size w1).alloc (Nat.le_refl _) (.cells #[.string (bT (ownT ss))] 9)).mono HB.out.size))
    clear hv hsl hbs
    go_wp2_with fail
    refine C5.out.mono ?_
    rintro e w2 ⟨rfl, hb2⟩
    have HB2 := Lib.hid (HA.out.trans (hb2.mono HA.out.size))
    clear hb2
    go_wp2
    go_ret
    exact ⟨_, rfl, .inr ⟨HV.out, by rw [HLS.out]⟩, HB2.out⟩
end Go.Proofs.YtgehpaojbnpbcaaGreatDoor
