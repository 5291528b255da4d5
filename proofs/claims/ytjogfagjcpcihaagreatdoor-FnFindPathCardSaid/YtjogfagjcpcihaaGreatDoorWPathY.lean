/-
  The walks of impl's isPath, (*tree).follow and FindPath. Conditions: the argument's memory holds the graph; the package-level errors hold errors; the text has at most 2^20 bytes.
-/
import Derived.Test.YtjogfagjcpcihaaGreatDoorJEY
namespace Go.Proofs.YtjogfagjcpcihaaGreatDoor
open Go Go.RowKit Go.Maps
attribute [local go_sem ↓] field_kind field_name field_scope field_places
theorem slice_nat (p : ByteArray) (j k : Nat) (hj : j ≤ k) (hk : k ≤ p.size) (w : World) : (Instr.slice 9 (.string p) (some (.int .i64 (j : Int))) (some (.int .i64 (k : Int))) none).run Tryz.prog w = .ok (.string (p.extract j k)) w := by
  simp [go_sem, hj, hk]
theorem slice_letter (p : ByteArray) (k : Nat) (hk : k < p.size) (w : World) : (Instr.slice 9 (.string p) (some (.int .i64 (k : Int))) (some (.int .i64 ((k : Int) + 1))) none).run Tryz.prog w = .ok (.string (p.extract k (k + 1))) w :=
  slice_nat p k (k + 1) (Nat.le_succ _) hk w
theorem slice_head (p : ByteArray) (hk : 0 < p.size) (w : World) : (Instr.slice 9 (.string p) none (some (.int .i64 1)) none).run Tryz.prog w = .ok (.string (p.extract 0 1)) w := by
  simp [go_sem]
  intro h
  omega
/-- The first letters of a text are names. -/
def letters (p : ByteArray) (k : Nat) : Prop := ∀ i, i < k → nameB (p.extract i (i + 1)) = true
theorem letters_snoc {p : ByteArray} {k : Nat} (h : letters p k) (h2 : nameB (p.extract k (k + 1)) = true) : letters p (k + 1) := by
  intro i hi
  by_cases he : i = k
  · subst he; exact h2
  · exact h i (by omega)
/-- From the scope of the module that a list has alone: the declarations of a name. -/
def fpStep (ss : List Sc) (l : List (Int × Int)) (nm : ByteArray) : List (Int × Int) := if aloneP ss l = -1 then [] else ownP ss (aloneP ss l).toNat nm
/-- What the first letters of a path find. -/
def fpUp (ss : List Sc) (s : Nat) (p : ByteArray) : Nat → List (Int × Int)
  | 0 => []
  | 1 => (lookP ss s (p.extract 0 1)).places
  | k + 2 => fpStep ss (fpUp ss s p (k + 1)) (p.extract (k + 1) (k + 2))
theorem fpUp_succ (ss : List Sc) (s : Nat) (p : ByteArray) {k : Nat} (hk : 1 ≤ k) : fpUp ss s p (k + 1) = fpStep ss (fpUp ss s p k) (p.extract k (k + 1)) := by
  obtain ⟨m, rfl⟩ : ∃ m, k = m + 1 := ⟨k - 1, by omega⟩
  rfl
theorem fpStep_ok {ss : List Sc} (hv : Valid ss) (l : List (Int × Int)) (nm : ByteArray) : (fpStep ss l nm).length ≤ 25 ∧ ∀ p ∈ fpStep ss l nm, IsPlace ss p := by
  unfold fpStep
  split
  · exact ⟨by simp, fun p hp => by simp at hp⟩
  · exact ⟨by have := ownP_length hv (aloneP ss l).toNat nm; omega, own_isPlace⟩
theorem fpUp_ok {ss : List Sc} (hv : Valid ss) (s : Nat) (p : ByteArray) : ∀ k : Nat, (fpUp ss s p k).length ≤ 25 ∧ ∀ q ∈ fpUp ss s p k, IsPlace ss q
  | 0 => ⟨by simp [fpUp], fun q hq => by simp [fpUp] at hq⟩
  | 1 => ⟨lookF_length hv _ _, look_isPlace⟩
  | k + 2 => fpStep_ok hv _ _
def fpOk (ss : List Sc) (n : Int) (p : ByteArray) : Prop := HasScope ss n ∧ 0 < p.size ∧ letters p p.size
/-- Where a list has a module alone, it is a scope's number. -/
theorem alone_scope {ss : List Sc} (hv : Valid ss) {l : List (Int × Int)} (hp : ∀ p ∈ l, IsPlace ss p) : aloneP ss l = -1 ∨ ∃ m : Nat, aloneP ss l = (m : Int) ∧ m < ss.length := by
  by_cases h : l.length = 1
  · obtain ⟨p, rfl⟩ := List.length_eq_one_iff.1 h
    obtain ⟨i, j, c, x, rfl, hc, hx⟩ := hp p (List.mem_singleton.2 rfl)
    have he : aloneP ss [((i : Int), (j : Int))] = x.scope := scopeAt_of hc hx
    rw [he]
    exact scope_ok hv (placed_of hc hx)
  · exact .inl (aloneP_not h)
def PathGot (p : ByteArray) (w : World) (e : Ending) (w' : World) : Prop := ∃ b : Bool, e = .returned (.bool b) ∧ (b = true ↔ 0 < p.size ∧ letters p p.size) ∧ w' = w
set_option maxRecDepth 100000 in
set_option maxHeartbeats 4000000 in
theorem isPath_any (p : ByteArray) (hp : p.size ≤ 1048576) (w : World) : Calls Tryz.prog 51 #[.string p] w (PathGot p w) := by
  go_enter Tryz.func51, Tryz.ntmps51
  go_wp2
  go_loopw [6] (fun i wr => ∃ k : Nat, i = .int .i64 k ∧ k ≤ p.size ∧ Hid (letters p k) ∧ wr = w) (fun i _ => p.size - (intOf i).toNat)
  case atStart => exact ⟨0, rfl, Nat.zero_le _, Lib.hid (fun i hi => by omega), rfl⟩
  case round =>
    obtain ⟨k, rfl, hk, hL, rfl⟩ := hrel
    by_cases hlt : k < p.size
    · have C := Lib.hid (isName_any (p.extract k (k + 1)) wr)
      have hsl := slice_letter p k hlt wr
      go_wp2_with fail
      refine C.out.mono ?_
      rintro e w2 ⟨rfl, rfl⟩
      cases hq : nameB (p.extract k (k + 1)) with
      | false =>
        have HN : Hid ((false = true) ↔ (0 < p.size ∧ letters p p.size)) := Lib.hid ⟨fun h => (by cases h), fun h => by rw [h.2 k hlt] at hq; cases hq⟩
        clear hq
        go_wp2
        go_ret
        exact ⟨false, rfl, HN.out, rfl⟩
      | true =>
        have HL2 := Lib.hid (letters_snoc hL.out hq)
        clear hq
        go_wp2
        go_roundw
        case rel => exact ⟨k + 1, by go_num, by omega, HL2, by first | rfl | trivial⟩
        case measure => simp only [intOf]; omega
    · obtain rfl : k = p.size := by omega
      by_cases h0 : p.size = 0
      · have hq : p.toList.isEmpty = true := by
          have : p = ⟨#[]⟩ := by
            rcases p with ⟨d⟩
            have : d = #[] := Array.eq_empty_of_size_eq_zero h0
            rw [this]
          rw [this]; simp
        have HN : Hid ((false = true) ↔ (0 < p.size ∧ letters p p.size)) := Lib.hid ⟨fun h => (by cases h), fun h => (by omega)⟩
        clear h0
        go_wp2
        go_ret
        exact ⟨false, by first | rfl | simp [hq], HN.out, rfl⟩
      · have hq : p.toList.isEmpty = false := by
          cases hc : p.toList.isEmpty with
          | false => rfl
          | true =>
            exfalso
            apply h0
            rw [List.isEmpty_iff] at hc
            rw [ByteArray.toList_eq] at hc
            have := congrArg List.length hc
            simpa using this
        have HN : Hid (0 < p.size ∧ letters p p.size) := Lib.hid ⟨by omega, hL.out⟩
        clear h0
        go_wp2
        go_ret
        exact ⟨true, by first | rfl | simp [hq], ⟨fun _ => HN.out, fun _ => rfl⟩, rfl⟩
set_option maxRecDepth 100000 in
set_option maxHeartbeats 4000000 in
theorem follow_any {ss : List Sc} (hv : Valid ss) {w : World} {B T M1 M2 : Nat} {v : Value} {ds : List Nd} (hT : TreeIs w B T M1 M2 v ds ss) {oa : Option Addr} {cap : Nat} {l : List (Int × Int)} (hl : l.length < 1000) (hp : ∀ p ∈ l, IsPlace ss p) (ha : ArgPlaces w oa l) (nm : ByteArray) :
    Calls Tryz.prog 54 #[.pointer (some ⟨T, 0, none⟩), .slice oa l.length cap, .string nm] w (PlsGot (fpStep ss l nm) w) := by
  have C := Lib.hid (moduleAlone_any (cap := cap) hv hT hl hp ha)
  have HT := Lib.hid hT
  have HV := Lib.hid hv
  have hsc := alone_scope hv hp
  clear hv hT hl hp ha
  rcases hsc with h1 | ⟨m, h1, hm⟩
  · have HE : Hid (fpStep ss l nm = []) := Lib.hid (by unfold fpStep; rw [if_pos h1])
    rw [h1] at C
    clear h1
    go_enter Tryz.func54, Tryz.ntmps54
    go_wp2_with fail
    refine C.out.mono ?_
    rintro e w1 ⟨rfl, hb1⟩
    have HB1 := Lib.hid hb1
    clear hb1
    go_wp2
    go_ret
    exact ⟨_, rfl, by rw [HE.out]; exact World.ownsRow_nil _ _ _ _, HB1.out⟩
  · have HE : Hid (fpStep ss l nm = ownP ss m nm) := Lib.hid (by unfold fpStep; rw [if_neg (by omega), h1, Int.toNat_natCast])
    rw [h1] at C
    have hk : ((m : Int) == -1) = false := beq_eq_false_iff_ne.2 (by omega)
    have hdl := HT.out.hold.len
    obtain ⟨d, hd⟩ : ∃ d, ds[m]? = some d := ⟨_, List.getElem?_eq_getElem (by omega)⟩
    have HD := Lib.hid hd
    clear h1
    go_enter Tryz.func54, Tryz.ntmps54
    go_wp2_with fail
    refine C.out.mono ?_
    rintro e w1 ⟨rfl, hb1⟩
    have HT1 := Lib.hid (HT.out.below hb1)
    have HB1 := Lib.hid hb1
    obtain ⟨g, cap', rfl, hgB, hg, hslot⟩ := HT1.out.tree.slot (by intro e; rw [e] at hd; simp at hd)
    have s0 := hslot m d hd
    unfold Nd.ptr at s0
    have t0 := HT1.out.tree.box.cell (i := 0) (by rfl)
    have C2 := Lib.hid (own_any HV.out HT1.out HD.out nm)
    have hi0 : (0 : Int) ≤ (m : Int) := by omega
    have hi1 : (m : Int) < (ds.length : Int) := by omega
    clear hb1 hslot hd
    go_wp2_with fail
    refine C2.out.mono ?_
    rintro e w2 ⟨u, rfl, hu, hb2⟩
    have HU := Lib.hid (ownsRow_lower hu HB1.out.size)
    have HB2 := Lib.hid (HB1.out.trans (hb2.mono HB1.out.size))
    clear hu hb2
    go_wp2
    go_ret
    exact ⟨_, rfl, by rw [HE.out]; exact HU.out, HB2.out⟩
theorem LookGot.shape {ss : List Sc} {n : Int} {nm : ByteArray} {w w' : World} {e : Ending} (h : LookGot ss n nm w e w') : ∃ x y z, e = .returned (.tuple #[x, y, z]) := by
  rcases h with ⟨_, ⟨tp, p, rfl⟩, _⟩ | ⟨_, i, d, L, M, T, M1, M2, v, ds, _, _, _, rfl, _⟩
  · exact ⟨_, _, _, rfl⟩
  · exact ⟨_, _, _, rfl⟩
theorem LookGot.below {ss : List Sc} {n : Int} {nm : ByteArray} {w w' : World} {e : Ending} (h : LookGot ss n nm w e w') : Below w.heap.size w w' := by
  rcases h with ⟨_, _, hb⟩ | ⟨_, i, d, L, M, T, M1, M2, v, ds, _, _, _, _, hb, _⟩
  · exact hb
  · exact hb
set_option maxRecDepth 100000 in
set_option maxHeartbeats 8000000 in
theorem implFindPath_any (ss : List Sc) (hF : Fair ss) (oa : Option Addr) (cap : Nat) (n : Int) (p : ByteArray) (hps : p.size ≤ 1048576) (w : World) (hc : HoldsScopes w oa ss) (hE : NameErrs w) :
    Calls Tryz.prog 17 #[.agg #[.slice oa ss.length cap], .int .i64 n, .string p] w (PlGot (fpOk ss n p) (fpUp ss n.toNat p p.size) w) := by
  have hb0 := (Below.refl w.heap.size w).alloc (Nat.le_refl _) (.cells #[.slice oa ss.length cap] 33)
  have RG := Lib.hid (Row.new w [.slice oa ss.length cap] 33)
  have CP := Lib.hid (fun W => isPath_any p hps W)
  have C := Lib.hid (lookupOf_any ss hF oa cap n (p.extract 0 1) _ (hc.below (hb0.drew) (Nat.le_refl _)) (hE.at hb0.drew))
  have HB0 := Lib.hid hb0
  clear hF hc hE hb0
  go_enter Tryz.func17, Tryz.ntmps17
  go_wp2_with fail
  refine (CP.out _).mono ?_
  rintro e w1 ⟨b, rfl, hbp, rfl⟩
  have HBP := Lib.hid hbp
  clear hbp
  cases b
  · have HN : Hid (¬ fpOk ss n p) := Lib.hid (fun h => by have := HBP.out.2 h.2; cases this)
    go_wp2
    go_ret2
    exact .inl ⟨HN.out, rfl, HB0.out⟩
  · have HPS := Lib.hid (HBP.out.1 rfl)
    have g0 := RG.out.cell (i := 0) (by rfl)
    have hsl := fun W => slice_head p HPS.out.1 W
    have hp1 : (1 : Int) ≤ (p.size : Int) := by have := HPS.out.1; omega
    have HLT0 : Hid (nameB (p.extract 0 1) = true) := Lib.hid (HPS.out.2 0 HPS.out.1)
    go_wp2
    generalize hW : w.alloc (.cells #[.slice oa ss.length cap] 33) = W at *
    go_cut [8, 9, 10] (fun s8 s9 s10 wx => LookGot ss n (p.extract 0 1) W.drew (.returned (.tuple #[s8, s9, s10])) wx)
    case first =>
      go_region_held3 (fun w' => w'.cell? ⟨w.heap.size, 0, none⟩ = some (.slice oa ss.length cap) ∧ True)
        (first | exact ⟨g0, trivial⟩ | exact ⟨cell_drew g0, trivial⟩ | exact ⟨cell_grow hb4 (cell_drew g0), trivial⟩)
        (first | (go_at_call 52; refine C.out.mono ?_; intro e w4 hgot; obtain ⟨x, y, z, rfl⟩ := hgot.shape; have hb4 : Below W.drew.heap.size W.drew w4 := hgot.below))
      all_goals go_wp2
      all_goals go_meet
      all_goals exact hgot
    case rest =>
      have HBW : Hid (Below w.heap.size w W.drew) := Lib.hid HB0.out.drew
      rcases hcut with ⟨hn, ⟨tp, pe, he⟩, hb⟩ | ⟨ho, s, d, L, M, T, M1, M2, v, ds, rfl, hs, hd, he, hb, hT, hLI, hLl, hMl, hn1, hn2⟩
      · cases he
        have HN : Hid (¬ fpOk ss n p) := Lib.hid (fun h => hn ⟨h.1, HLT0.out⟩)
        have HB1 := Lib.hid (HBW.out.trans (hb.mono HBW.out.size))
        clear hn hb g0
        go_wp2
        go_ret2
        exact .inl ⟨HN.out, rfl, HB1.out⟩
      · cases he
        have HO := Lib.hid ho
        have HB1 := Lib.hid (HBW.out.trans (hb.mono HBW.out.size))
        have HLW := Lib.hid (LookW.mk hT hLI.box (memo_nil (ss := ss) hLI.map) hn1 hn2)
        have HML := Lib.hid (Nat.le_trans HBW.out.size hMl)
        have HV := Lib.hid ho.1.1
        have C2 := Lib.hid (find_node HV.out HLW.out hd (fun m _ => target_any HV.out m) (p.extract 0 1))
        have HOK : Hid (fpOk ss (s : Int) p) := Lib.hid ⟨ho.1, HPS.out⟩
        clear ho hb hT hd hs hLI hLl hMl hn1 hn2 g0
        go_wp2_with fail
        refine C2.out.mono ?_
        rintro e w4 ⟨u, rfl, hrow, hl4⟩
        obtain ⟨ou, cu, rfl⟩ := ownsRow_slice hrow
        have HB4 := Lib.hid (HB1.out.trans (hl4.turns.below HML.out HML.out HB1.out.size))
        have HR4 := Lib.hid (ownsRow_lower hrow HB1.out.size)
        have HL4 := Lib.hid hl4.look
        have HT4 : Hid (w4.cell? ⟨L, 0, none⟩ = some (.pointer (some ⟨T, 0, none⟩))) := Lib.hid (hl4.look.box.cell (i := 0) (by rfl))
        clear hl4 hrow
        go_wp2
        go_loopw [11, 12] (fun v i wr => ∃ k : Nat, i = .int .i64 k ∧ 1 ≤ k ∧ k ≤ p.size ∧ Hid (wr.ownsRow w.heap.size 26 2 v (fpUp ss s p k).length (placeCells (fpUp ss s p k)) ∧ Below w4.heap.size w4 wr)) (fun _ i _ => p.size - (intOf i).toNat)
        case atStart => exact ⟨1, rfl, Nat.le_refl _, HPS.out.1, Lib.hid ⟨HR4.out, Below.refl _ _⟩⟩
        case round =>
          obtain ⟨k, rfl, hk1, hk, hP⟩ := hrel
          by_cases hlt : k < p.size
          · obtain ⟨o5, c5, rfl, hat⟩ := argPlaces_of_owns hP.out.1
            have hB5 : Below w4.heap.size w4 wr.drew := hP.out.2.drew
            have hok := fpUp_ok HV.out s p k
            have C3 := Lib.hid (follow_any HV.out ((HL4.out.tree.below hP.out.2).below ((Below.refl _ _).drew)) (cap := c5) (by omega) hok.2 (hat.below ((Below.refl _ _).drew)) (p.extract k (k + 1)))
            have l0 := (hP.out.2.cell (p := ⟨L, 0, none⟩) (World.block_lt_of_cell? _ _ HT4.out)).trans HT4.out
            have hsl2 := fun W => slice_letter p k hlt W
            have hwk : IntKind.i64.wrap ((k : Int) + 1) = (k : Int) + 1 := IntWalk.i64_in _ (by omega)
            have HST := Lib.hid (fpUp_succ ss s p hk1)
            have HSZ : Hid (w.heap.size ≤ wr.heap.size) := Lib.hid (Nat.le_trans HB4.out.size hP.out.2.size)
            clear hat hB5 hok
            go_wp2
            go_region_held3 (fun w' => w'.cell? ⟨L, 0, none⟩ = some (.pointer (some ⟨T, 0, none⟩)) ∧ True)
              (first | exact ⟨l0, trivial⟩ | exact ⟨cell_drew l0, trivial⟩ | exact ⟨cell_grow hb5 (cell_drew l0), trivial⟩)
              (first | (go_at_call 54; refine C3.out.mono ?_; rintro e w5 ⟨u5, rfl, hu5, hb5⟩))
            have HP6 : Hid (w5.ownsRow w.heap.size 26 2 u5 (fpUp ss s p (k + 1)).length (placeCells (fpUp ss s p (k + 1))) ∧ Below w4.heap.size w4 w5) := Lib.hid ⟨by rw [HST.out]; exact ownsRow_lower hu5 HSZ.out, hP.out.2.trans ((((Below.refl wr.heap.size wr).drew).trans hb5).mono hP.out.2.size)⟩
            clear hu5 hb5 l0
            go_wp2
            go_roundw
            case rel => exact ⟨k + 1, by go_num, by omega, by omega, HP6⟩
            case measure => simp only [intOf]; omega
          · obtain rfl : k = p.size := by omega
            have HEND := Lib.hid (HB4.out.trans (hP.out.2.mono HB4.out.size))
            go_wp2
            go_ret2
            exact .inr ⟨HOK.out, _, rfl, hP.out.1, HEND.out⟩
end Go.Proofs.YtjogfagjcpcihaaGreatDoor
