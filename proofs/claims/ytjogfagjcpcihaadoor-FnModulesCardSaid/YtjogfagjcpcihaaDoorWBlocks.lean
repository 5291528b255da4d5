/-
  The walks of BlocksOf, the given one and impl's. Conditions: the argument's memory holds the graph; the package-level errors hold errors.
-/
import Derived.Test.YtjogfagjcpcihaaDoorJD
import Derived.LaidEqlPtr
import Derived.BigRegion
namespace Go.Proofs.YtjogfagjcpcihaaDoor
open Go Go.RowKit Go.Maps
def isBlock (ss : List Sc) (s k : Nat) : Bool := decide (parP ss k = some s) && (moduleP ss (k : Int)).isNone
def blocksUp (ss : List Sc) (s k : Nat) : List Nat := (List.range k).filter (isBlock ss s)
theorem blocksUp_all (ss : List Sc) (s : Nat) : blocksUp ss s ss.length = blocksP ss s := rfl
theorem blocksUp_snoc (ss : List Sc) (s k : Nat) : blocksUp ss s (k + 1) = blocksUp ss s k ++ if isBlock ss s k = true then [k] else [] := by
  unfold blocksUp
  rw [List.range_succ, List.filter_append]
  congr 1
  by_cases h : isBlock ss s k = true
  · rw [if_pos h]; simp [h]
  · rw [if_neg h]; simp [h]
theorem blocksUp_length (ss : List Sc) (s k : Nat) : (blocksUp ss s k).length ≤ k := by
  have := List.length_filter_le (isBlock ss s) (List.range k)
  simpa [blocksUp] using this
theorem par_eq {ss : List Sc} (h : Climbs ss) {k s : Nat} {c : Sc} (hc : ss[k]? = some c) : decide (parP ss k = some s) = (c.parent == (s : Int)) := by
  rcases h.cases hc with ⟨_, h1, h2⟩ | ⟨p, h1, _, h2⟩
  · rw [h1, h2]; simp
  · rw [h1, h2]
    rw [Bool.eq_iff_iff]
    simp
    omega
theorem modR_none {ss : List Sc} {m a b : Int} {ok : Bool} (h : modR ss m a b ok) : (moduleP ss m).isNone = !ok := by
  rcases h with ⟨h1, _, _, rfl⟩ | ⟨q, h1, _, _, rfl⟩ <;> rw [h1] <;> rfl
set_option maxRecDepth 100000 in
set_option maxHeartbeats 1600000 in
theorem specBlocks_any (ss : List Sc) (hf : FitsScopes ss) (oa : Option Addr) (cap : Nat) (n : Int) (w : World) (hc : HoldsScopes w oa ss) :
    Calls Tryd.prog 14 #[.agg #[.slice oa ss.length cap], .int .i64 n] w (ListGot2 (HasScope ss n) (blocksP ss n.toNat) w) := by
  have hb0 := ((Below.refl w.heap.size w).alloc (Nat.le_refl _) (.cells #[.slice oa ss.length cap] 25)).alloc (by simp) (.cells #[] 3)
  have C := Lib.hid (specScope_any ss hf oa cap n _ (hc.below hb0 (Nat.le_refl _)))
  have R := Lib.hid ((Row.new w [.slice oa ss.length cap] 25).alloc (.cells #[] 3))
  have hown0 : ((w.alloc (.cells #[.slice oa ss.length cap] 25)).alloc (.cells #[] 3)).ownsRow w.heap.size 3 1 (.slice (some ⟨w.heap.size + 1, 0, none⟩) 0 0) 0 [] := by
    have h0 := World.ownsRow_made (base := w.heap.size) (e := 3) (size := 1) (w.alloc (.cells #[.slice oa ss.length cap] 25)) #[] 0 (by simp) (by unfold maxLen; omega) rfl
    rw [World.size_alloc] at h0
    exact h0
  have HB0 := Lib.hid hb0
  have HC := Lib.hid hc
  have HO := Lib.hid hown0
  have HF := Lib.hid hf
  clear hf hc hb0 hown0
  go_enter Tryd.func14, Tryd.ntmps14
  go_wp2_with fail
  refine C.out.mono ?_
  rintro e w1 ⟨b, rfl, hv, hb⟩
  have HB := Lib.hid (HB0.out.trans (hb.mono HB0.out.size))
  have R1 := Lib.hid (R.out.below hb R.out.lt)
  have HO1 := Lib.hid (ownsRow_below HO.out hb)
  have c1 := R1.out.cell (i := 0) (by rfl)
  have HV := Lib.hid hv
  clear hb hv
  cases b
  · have HN : Hid (¬ HasScope ss n) := Lib.hid (fun h => by have := HV.out.2 h; cases this)
    go_wp2
    go_ret2
    exact .inl ⟨HN.out, _, rfl, HB.out⟩
  · obtain ⟨hv, h0, h1⟩ := HV.out.1 rfl
    obtain ⟨s, rfl⟩ : ∃ s : Nat, n = (s : Int) := ⟨n.toNat, by omega⟩
    have HH := Lib.hid (And.intro hv (And.intro h0 h1))
    have h6 := hv.count.2
    have HK := Lib.hid hv.climbs
    clear hv h0 h1
    go_wp2
    go_loopw [6, 20] (fun v i wr => ∃ k : Nat, i = .int .i64 k ∧ k ≤ ss.length ∧ Row wr w.heap.size 25 [.slice oa ss.length cap] ∧ wr.ownsRow w.heap.size 3 1 v (blocksUp ss s k).length (numVals (blocksUp ss s k)) ∧ Below w.heap.size w wr) (fun _ i _ => ss.length - (intOf i).toNat)
    case atStart => exact ⟨0, rfl, Nat.zero_le _, R1.out, HO1.out, HB.out⟩
    case round =>
      obtain ⟨k, rfl, hk, hR, hrow, hb⟩ := hrel
      have HROW := Lib.hid hrow
      have HBR := Lib.hid hb
      have HRR := Lib.hid hR
      by_cases hlt : k < ss.length
      · obtain ⟨c, hck⟩ : ∃ c, ss[k]? = some c := ⟨_, List.getElem?_eq_getElem hlt⟩
        obtain ⟨bb, off, rfl, hbb, hcell⟩ := HC.out.at (by omega)
        obtain ⟨oi, ci, a0, a1, -⟩ := hcell k c hck
        have b0 := (hb.cell (p := ⟨bb, off + k * 2, none⟩) hbb).trans a0
        have b1 := (hb.cell (p := ⟨bb, off + k * 2 + 1, none⟩) hbb).trans a1
        have hbS := (Below.refl wr.heap.size wr).alloc (Nat.le_refl _) (.cells #[.int .i64 c.parent, .slice oi c.items.length ci] 40)
        have RS := Lib.hid (Row.new wr [.int .i64 c.parent, .slice oi c.items.length ci] 40)
        have HB2 := Lib.hid (HBR.out.trans (hbS.mono HBR.out.size))
        have R2 := Lib.hid (hR.alloc (.cells #[.int .i64 c.parent, .slice oi c.items.length ci] 40))
        have HR2 := Lib.hid (hrow.alloc (.cells #[.int .i64 c.parent, .slice oi c.items.length ci] 40))
        have C2 := Lib.hid (specModule_any ss HF.out (some ⟨bb, off, none⟩) cap (k : Int) _ (HC.out.below HB2.out (Nat.le_refl _)))
        have g0 := R2.out.cell (i := 0) (by rfl)
        have hpl := blocksUp_length ss s k
        have HST := Lib.hid (blocksUp_snoc ss s k)
        have HPE := Lib.hid (par_eq HK.out (s := s) hck)
        have HHK : Hid (HasScope ss (k : Int)) := Lib.hid ⟨HH.out.1, by omega, by omega⟩
        generalize hpe : blocksUp ss s k = pre at hpl
        rw [hpe] at HR2 HST
        have hbs : w.heap.size ≤ wr.heap.size := HBR.out.size
        clear hR hb hrow hpe hcell a0 a1 hbS hck
        go_wp2_with fail
        refine C2.out.mono ?_
        rintro e w3 ⟨a, b, ok, rfl, hm, hb3⟩
        have hm' : modR ss (k : Int) a b ok := by
          rcases hm with ⟨h1, _⟩ | ⟨_, h2⟩
          · exact absurd HHK.out h1
          · exact h2
        have hbP := (Below.refl w3.heap.size w3).alloc (Nat.le_refl _) (.cells #[.int .i64 a, .int .i64 b] 32)
        have hbq := hb3.trans (hbP.mono hb3.size)
        have HB3 := Lib.hid (HB2.out.trans (hbq.mono HB2.out.size))
        have R3 := Lib.hid (R2.out.below hbq R2.out.lt)
        have RS3 := Lib.hid (RS.out.below hbq RS.out.lt)
        have hrow3 := ownsRow_below HR2.out hbq
        have HR3 := Lib.hid hrow3
        have HM : Hid (isBlock ss s k = ((c.parent == (s : Int)) && !ok)) := Lib.hid (by unfold isBlock; rw [HPE.out, modR_none hm'])
        have s3 := RS3.out.cell (i := 0) (by rfl)
        have hbs3 : w.heap.size ≤ w3.heap.size := Nat.le_trans HB2.out.size hb3.size
        clear hm hm' hb3 hbP hbq g0 b0 b1
        by_cases hp : c.parent = (s : Int)
        · have hq : (c.parent == (s : Int)) = true := by simpa using hp
          rw [hq] at HM
          clear hp
          cases ok with
          | true =>
            have HE : Hid (blocksUp ss s (k + 1) = pre) := Lib.hid (by rw [HST.out, HM.out]; simp)
            clear hrow3
            go_wp2
            go_roundw
            case rel => exact ⟨k + 1, by go_num, by omega, R3.out, by rw [HE.out]; exact HR3.out, HB3.out⟩
            case measure => simp only [intOf]; omega
          | false =>
            have HE : Hid (blocksUp ss s (k + 1) = pre ++ [k]) := Lib.hid (by rw [HST.out, HM.out]; simp)
            obtain ⟨i0, hi0, hz0, hz1, hz2⟩ := info_parts infoInt
            go_wp2_with (at_builtin; refine wpList_append_own _ rfl _ _ 28 rfl w.heap.size 3 i0 (.int .i64 0) 1 8 Tryd.underlying28 hi0 hz0 hz1 hz2 rfl (by decide) _ _ _ rfl (hrow3.alloc _) ⟨w3.heap.size + 1, 0, none⟩ 1 1 [.int .i64 (k : Int)] rfl rfl ?c1 ?c2 ?c3 ?c4 ?c5 ?_)
            all_goals try (case c1 => intro j u hu; have h5 := cells_new (w3.alloc (.cells #[.int .i64 a, .int .i64 b] 32)) _ 3 j u hu; rw [World.size_alloc] at h5; exact h5)
            all_goals try (case c2 => first | rfl | (intro u hu; simp only [List.mem_singleton] at hu; subst hu; rfl))
            all_goals try (case c3 => unfold maxLen; omega)
            all_goals try (case c4 => omega)
            all_goals try (case c5 => first | omega | (simp only [World.size_alloc]; omega) | (simp; omega))
            intro v' w4 hown' hgrow _
            have HB4 := Lib.hid (HB3.out.trans (below_append HR3.out hgrow (Nat.le_refl w.heap.size) (by simp; omega)))
            have HR4 := Lib.hid ((R3.out.alloc (.cells #[.int .i64 (k : Int)] 3)).grown hgrow (ownsRow_ne R3.out (by decide) HR3.out))
            have HO4 := Lib.hid hown'
            clear hrow3 hown' hgrow
            go_wp2
            go_roundw
            case rel => exact ⟨k + 1, by go_num, by omega, HR4.out, by rw [HE.out, List.length_append, numVals_snoc]; exact HO4.out, HB4.out⟩
            case measure => simp only [intOf]; omega
        · have hq : (c.parent == (s : Int)) = false := by simpa using hp
          rw [hq] at HM
          have HE : Hid (blocksUp ss s (k + 1) = pre) := Lib.hid (by rw [HST.out, HM.out]; simp)
          clear hrow3 hp
          go_wp2
          go_roundw
          case rel => exact ⟨k + 1, by go_num, by omega, R3.out, by rw [HE.out]; exact HR3.out, HB3.out⟩
          case measure => simp only [intOf]; omega
      · obtain rfl : k = ss.length := by omega
        clear hR hb hrow
        go_wp2
        go_ret2
        exact .inr ⟨HH.out, _, rfl, by have := HROW.out; rw [blocksUp_all] at this; exact this, HBR.out⟩
/-- impl's: the parents compared as pointers, and as numbers. -/
theorem par_same {ss : List Sc} (hv : Valid ss) {w : World} {B T M1 M2 : Nat} {v : Value} {ds : List Nd} (hT : TreeIs w B T M1 M2 v ds ss) {s k : Nat} {d dk : Nd} {c : Sc} (hd : ds[s]? = some d) (hdk : ds[k]? = some dk) (hc : ss[k]? = some c) :
    decide (dk.par = some ⟨d.blk, 0, none⟩) = (c.parent == (s : Int)) := by
  have h := par_iff hT.hold.len hT.tree.inj hT.pars hv.scopes hd hdk hc
  rw [Bool.eq_iff_iff, decide_eq_true_eq, h]
  simp
set_option maxRecDepth 100000 in
set_option maxHeartbeats 4000000 in
theorem blocks_any {ss : List Sc} (hv : Valid ss) {w : World} {B T M1 M2 : Nat} {v : Value} {ds : List Nd} (hT : TreeIs w B T M1 M2 v ds ss) {s : Nat} {d : Nd} (hd : ds[s]? = some d) :
    Calls Tryd.prog 56 #[.pointer (some ⟨T, 0, none⟩), .pointer (some ⟨d.blk, 0, none⟩)] w fun e w' => ∃ u, e = .returned u ∧ w'.ownsRow w.heap.size 3 1 u (blocksP ss s).length (numVals (blocksP ss s)) ∧ Below w.heap.size w w' := by
  have HV := Lib.hid hv
  have HT := Lib.hid hT
  have HD := Lib.hid hd
  have HC := Lib.hid hv.climbs
  have h6 := hv.count.2
  obtain ⟨g, cap', rfl, hgB, hg, hslot⟩ := hT.tree.slot (hT.ne hv)
  have HSL := Lib.hid hslot
  have hdl := hT.hold.len
  have t0 := hT.tree.box.cell (i := 0) (by rfl)
  clear hv hT hd hslot
  go_enter Tryd.func56, Tryd.ntmps56
  go_wp2
  go_loopw [5, 15] (fun v i wr => ∃ k : Nat, i = .int .i64 k ∧ k ≤ ds.length ∧ wr.ownsRow w.heap.size 3 1 v (blocksUp ss s k).length (numVals (blocksUp ss s k)) ∧ Below w.heap.size w wr) (fun _ i _ => ds.length - (intOf i).toNat)
  case atStart => exact ⟨0, rfl, Nat.zero_le _, World.ownsRow_nil _ _ _ _, Below.refl _ _⟩
  case round =>
    obtain ⟨k, rfl, hk, hrow, hb⟩ := hrel
    have HROW := Lib.hid hrow
    have HBR := Lib.hid hb
    by_cases hlt : k < ds.length
    · obtain ⟨dk, hdk⟩ : ∃ e, ds[k]? = some e := ⟨_, List.getElem?_eq_getElem hlt⟩
      obtain ⟨c, hck⟩ : ∃ c, ss[k]? = some c := ⟨_, List.getElem?_eq_getElem (by omega)⟩
      have hTk := HT.out.below hb
      have s0 := (hb.cell (p := ⟨g, k, none⟩) hg).trans (HSL.out k dk hdk)
      unfold Nd.ptr at s0
      obtain ⟨a, b, ok, hR⟩ := modR_total ss (k : Int)
      have hwf := wf_small (show k < 1000 by omega)
      have hrun := look_mod HV.out HT.out (by omega) hwf hR hb.drew
      have hrun2 := look_mod HV.out HT.out (by omega) hwf hR (W := (wr.alloc (.cells #[.int .i64 0, .int .i64 0] 32)).drew) ((hb.trans ((Below.refl wr.heap.size wr).alloc (Nat.le_refl _) (.cells #[.int .i64 0, .int .i64 0] 32) |>.mono hb.size)).drew)
      have hbA := ((Below.refl wr.heap.size wr).alloc (Nat.le_refl _) (.cells #[.int .i64 0, .int .i64 0] 32)).drew
      have k2 := hTk.tree.box.cell (i := 2) (by rfl)
      have k2A := (hbA.cell (p := ⟨T, 2, none⟩) hTk.tree.box.lt).trans k2
      have nk := hTk.tree.node k dk hdk
      have n0 := nk.2.cell (i := 0) (v := .int .i64 (k : Int)) (by rfl)
      have n0A := (hbA.cell (p := ⟨dk.blk, 0, none⟩) nk.2.lt).trans n0
      have HDK := Lib.hid hdk
      have HTK := Lib.hid hTk
      have hpl := blocksUp_length ss s k
      have HST := Lib.hid (blocksUp_snoc ss s k)
      have HM : Hid (isBlock ss s k = ((c.parent == (s : Int)) && !ok)) := Lib.hid (by unfold isBlock; rw [par_eq HC.out hck, modR_none hR])
      have HPS := Lib.hid (par_same HV.out hTk HD.out hdk hck)
      generalize hpe : blocksUp ss s k = pre at hrow hpl
      rw [hpe] at HROW HST
      clear hb hrow hpe hTk hdk hck hR hbA nk
      go_wp2
      go_cut [9] (fun s9 wx => s9 = .bool ok ∧ Below wr.heap.size wr wx)
      case first =>
        go_region
        all_goals go_wp2
        all_goals go_meet
        all_goals exact ⟨rfl, ((Below.refl _ _).alloc (Nat.le_refl _) _).drew⟩
      case rest =>
        obtain ⟨rfl, hbc⟩ := hcut
        have HB4 := Lib.hid (HBR.out.trans (hbc.mono HBR.out.size))
        have HO4 := Lib.hid (ownsRow_below HROW.out hbc)
        have hT4 := HTK.out.below hbc
        have nk := hT4.tree.node k dk HDK.out
        have m0 := nk.2.cell (i := 0) (v := .int .i64 (k : Int)) (by rfl)
        have m1 := nk.2.cell (i := 1) (v := .pointer dk.par) (by rfl)
        have hq := eql_par hT4.tree HD.out HDK.out wc rfl
        rw [HPS.out] at hq
        clear hrun hrun2 k2 k2A n0 n0A hbc hT4 nk s0
        cases hp : (c.parent == (s : Int)) with
        | true =>
          rw [hp] at hq HM
          clear hp
          cases ok with
          | true =>
            have HE : Hid (blocksUp ss s (k + 1) = pre) := Lib.hid (by rw [HST.out, HM.out]; simp)
            go_wp2
            go_roundw
            case rel => exact ⟨k + 1, by go_num, by omega, by rw [HE.out]; exact HO4.out, HB4.out⟩
            case measure => simp only [intOf]; omega
          | false =>
            have HE : Hid (blocksUp ss s (k + 1) = pre ++ [k]) := Lib.hid (by rw [HST.out, HM.out]; simp)
            obtain ⟨i0, hi0, hz0, hz1, hz2⟩ := info_parts infoInt
            have hrow4 := HO4.out
            have hbs4 : w.heap.size ≤ wc.heap.size := HB4.out.size
            go_wp2_with (at_builtin; refine wpList_append_own _ rfl _ _ 28 rfl w.heap.size 3 i0 (.int .i64 0) 1 8 Tryd.underlying28 hi0 hz0 hz1 hz2 rfl (by decide) _ _ _ rfl (hrow4.alloc _) ⟨wc.heap.size, 0, none⟩ 1 1 [.int .i64 (k : Int)] rfl rfl ?c1 ?c2 ?c3 ?c4 ?c5 ?_)
            all_goals try (case c1 => exact cells_new _ _ _)
            all_goals try (case c2 => first | rfl | (intro u hu; simp only [List.mem_singleton] at hu; subst hu; rfl))
            all_goals try (case c3 => unfold maxLen; omega)
            all_goals try (case c4 => omega)
            all_goals try (case c5 => first | omega | (simp only [World.size_alloc]; omega) | (simp; omega))
            intro v' w5 hown' hgrow _
            have HB5 := Lib.hid (HB4.out.trans (below_append HO4.out hgrow (Nat.le_refl w.heap.size) HB4.out.size))
            have HO5 := Lib.hid hown'
            clear hrow4 hown' hgrow
            go_wp2
            go_roundw
            case rel => exact ⟨k + 1, by go_num, by omega, by rw [HE.out, List.length_append, numVals_snoc]; exact HO5.out, HB5.out⟩
            case measure => simp only [intOf]; omega
        | false =>
          rw [hp] at hq HM
          clear hp
          have HE : Hid (blocksUp ss s (k + 1) = pre) := Lib.hid (by rw [HST.out, HM.out]; simp)
          go_wp2
          go_roundw
          case rel => exact ⟨k + 1, by go_num, by omega, by rw [HE.out]; exact HO4.out, HB4.out⟩
          case measure => simp only [intOf]; omega
    · obtain rfl : k = ds.length := by omega
      clear hb hrow
      go_wp2
      go_ret
      exact ⟨_, rfl, by have := HROW.out; rw [hdl] at this; exact this, HBR.out⟩
set_option maxRecDepth 100000 in
set_option maxHeartbeats 4000000 in
theorem implBlocks_any (ss : List Sc) (hF : Fair ss) (oa : Option Addr) (cap : Nat) (n : Int) (w : World) (hc : HoldsScopes w oa ss) (hE : NodeErrs w) :
    Calls Tryd.prog 13 #[.agg #[.slice oa ss.length cap], .int .i64 n] w (ListGot (HasScope ss n) (blocksP ss n.toNat) w) := by
  have hb0 := (Below.refl w.heap.size w).alloc (Nat.le_refl _) (.cells #[.slice oa ss.length cap] 25)
  have C := Lib.hid (nodeOf_any ss hF oa cap n _ (hc.below hb0 (Nat.le_refl _)) (hE.at hb0))
  have HB0 := Lib.hid hb0
  clear hF hc hE hb0
  go_enter Tryd.func13, Tryd.ntmps13
  go_wp2_with fail
  refine C.out.mono ?_
  rintro e w1 (⟨hv, ⟨tp, p, rfl⟩, hb⟩ | ⟨hv, s, d, T, M1, M2, v, ds, rfl, hs, hd, rfl, hb, hT⟩)
  · have HV := Lib.hid hv
    have HB := Lib.hid (HB0.out.trans (hb.mono HB0.out.size))
    clear hv hb
    go_wp2
    go_ret2
    exact .inl ⟨HV.out, rfl, HB.out⟩
  · have HV := Lib.hid hv
    have HB := Lib.hid (HB0.out.trans (hb.mono HB0.out.size))
    have hdl := hT.hold.len
    have C2 := Lib.hid (blocks_any hv hT hd)
    have HS := Lib.hid hs
    clear hv hb hT hd hs
    go_wp2_with fail
    refine C2.out.mono ?_
    rintro e w2 ⟨u, rfl, hrow, hb2⟩
    have HROW := Lib.hid hrow
    have HB2 := Lib.hid (HB.out.trans (hb2.mono HB.out.size))
    clear hrow hb2
    go_wp2
    go_ret2
    exact .inr ⟨⟨HV.out, by omega, by have := HS.out; omega⟩, u, rfl, ownsRow_lower HROW.out HB.out.size, HB2.out⟩
end Go.Proofs.YtjogfagjcpcihaaDoor
