/-
  The walk of impl's WithinOf. Conditions: the argument's memory holds the graph; the package-level errors hold errors.
-/
import Derived.Test.YtoijapbffhkbbaaDoorSetEq
import Derived.Test.YtoijapbffhkbbaaDoorWSpecWithin
import Derived.Lib.QuietBelow
import Derived.IntWalk
import Derived.BigQuiet
namespace Go.Proofs.YtoijapbffhkbbaaDoor
open Go Go.RowKit Go.Maps
attribute [local go_sem] run_equal_set
set_option maxRecDepth 100000 in
set_option maxHeartbeats 4000000 in
theorem implWithin_any (ss : List Sc) (hF : Fair ss) (oa : Option Addr) (cap : Nat) (n : Int) (w : World) (hc : HoldsScopes w oa ss) (hE : NodeErrs w) :
    Calls Tryd.prog 47 #[.agg #[.slice oa ss.length cap], .int .i64 n] w (ListGot (HasScope ss n) (withinP ss n.toNat) w) := by
  have hb0 := (Below.refl w.heap.size w).alloc (Nat.le_refl _) (.cells #[.slice oa ss.length cap] 30)
  have C := Lib.hid (nodeOf_any ss hF oa cap n _ (hc.below hb0 (Nat.le_refl _)) (hE.at hb0))
  have HB0 := Lib.hid hb0
  clear hF hc hE hb0
  go_enter Tryd.func47, Tryd.ntmps47
  go_wp2_with fail
  refine C.out.mono ?_
  rintro e w1 (⟨hv, ⟨tp, p, rfl⟩, hb⟩ | ⟨hv, s, d, T, M1, M2, v, ds, rfl, hs, hd, rfl, hb, hT⟩)
  · have HV := Lib.hid hv
    have HB := Lib.hid (HB0.out.trans (hb.mono HB0.out.size))
    clear hv hb
    go_wp2
    go_ret2
    exact .inl ⟨HV.out, rfl, HB.out⟩
  · have HV := Lib.hid hv
    have HB := Lib.hid (HB0.out.trans (hb.mono HB0.out.size))
    have HT := Lib.hid hT
    have HD := Lib.hid hd
    have HC := Lib.hid hv.climbs
    have h6 := hv.count.2
    have H6 := Lib.hid h6
    have HS := Lib.hid hs
    obtain ⟨g, cap', rfl, hgB, hg, hslot⟩ := hT.tree.slot (hT.ne hv)
    have HSL := Lib.hid hslot
    have hdl := hT.hold.len
    have C2 := Lib.hid (chainSet_any hv hT hd)
    clear hv hb hT hd hs hslot
    go_wp2_with fail
    refine C2.out.mono ?_
    rintro e w2 ⟨rfl, hb2⟩
    have hb3 := hb2.trans (((Below.refl w2.heap.size w2).alloc (Nat.le_refl _) (.cells (setV fun i => decide (i ∈ chainP ss s)).toArray 106)).mono hb2.size)
    have HR := Lib.hid (Row.new w2 (setV fun i => decide (i ∈ chainP ss s)) 106)
    have HB3 := Lib.hid hb3
    have t0 := (HT.out.below hb3).tree.box.cell (i := 0) (by rfl)
    have HSZ : Hid (w1.heap.size ≤ w2.heap.size) := Lib.hid hb2.size
    clear hb2 hb3
    unfold setV at HR HB3 t0 ⊢
    go_wp2
    go_loopw [10, 29] (fun v i wr => ∃ k : Nat, i = .int .i64 k ∧ k ≤ ds.length ∧ Row wr w2.heap.size 106 (setV fun i => decide (i ∈ chainP ss s)) ∧ wr.ownsRow w1.heap.size 3 1 v ((List.range k).filter fun m => decide (s ∈ chainP ss m)).length (numVals ((List.range k).filter fun m => decide (s ∈ chainP ss m))) ∧ Below w1.heap.size w1 wr) (fun _ i _ => ds.length - (intOf i).toNat)
    case atStart => exact ⟨0, rfl, Nat.zero_le _, HR.out, World.ownsRow_nil _ _ _ _, HB3.out⟩
    case round =>
      obtain ⟨k, rfl, hk, hR, hrow, hb⟩ := hrel
      have HROW := Lib.hid hrow
      have HBR := Lib.hid hb
      have HRR := Lib.hid hR
      by_cases hlt : k < ds.length
      · obtain ⟨dk, hdk⟩ : ∃ e, ds[k]? = some e := ⟨_, List.getElem?_eq_getElem hlt⟩
        have hTk := HT.out.below hb
        have s0 := (hb.cell (p := ⟨g, k, none⟩) hg).trans (HSL.out k dk hdk)
        unfold Nd.ptr at s0
        have cE := fun q os => Calls.regrown_of (w := wr) (d := q) (os := os) (chainSet_any HV.out (hTk.below (below_regrown wr q os)) hdk)
        have cF := fun q os => Calls.regrown_of (w := wr) (d := q) (os := os) (and_any (fun i => decide (i ∈ chainP ss k)) (fun i => decide (i ∈ chainP ss s)) _)
        have x0 := cell_regrown (hR.cell (setV_get _ 0 (by omega)))
        have x1 := cell_regrown (hR.cell (setV_get _ 1 (by omega)))
        have x2 := cell_regrown (hR.cell (setV_get _ 2 (by omega)))
        have x3 := cell_regrown (hR.cell (setV_get _ 3 (by omega)))
        have x4 := cell_regrown (hR.cell (setV_get _ 4 (by omega)))
        have x5 := cell_regrown (hR.cell (setV_get _ 5 (by omega)))
        have hW := ((set_eq_iff (fun i => decide (i ∈ chainP ss k) && decide (i ∈ chainP ss s)) (fun i => decide (i ∈ chainP ss s))).trans (within_iff HC.out H6.out HS.out (m := k)))
        obtain ⟨r, hr⟩ : ∃ r, (((decide (0 ∈ chainP ss k) && decide (0 ∈ chainP ss s)) == decide (0 ∈ chainP ss s)) && (((decide (1 ∈ chainP ss k) && decide (1 ∈ chainP ss s)) == decide (1 ∈ chainP ss s)) && (((decide (2 ∈ chainP ss k) && decide (2 ∈ chainP ss s)) == decide (2 ∈ chainP ss s)) && (((decide (3 ∈ chainP ss k) && decide (3 ∈ chainP ss s)) == decide (3 ∈ chainP ss s)) && (((decide (4 ∈ chainP ss k) && decide (4 ∈ chainP ss s)) == decide (4 ∈ chainP ss s)) && ((decide (5 ∈ chainP ss k) && decide (5 ∈ chainP ss s)) == decide (5 ∈ chainP ss s))))))) = r := ⟨_, rfl⟩
        rw [hr] at hW
        have HW := Lib.hid hW
        have hgd := set_guard
        have hpl := within_length ss s k
        have HST := Lib.hid (within_snoc ss s k)
        have HDK := Lib.hid hdk
        generalize hpe : ((List.range k).filter fun m => decide (s ∈ chainP ss m)) = pre at hrow hpl
        rw [hpe] at HROW HST
        unfold setV at cE cF
        clear hR hb hrow hpe hTk hdk hW
        go_wp2_with fail
        refine wp_region_quiet_below (by kernel_rfl) (by kernel_rfl) ?_
        repeat (first | go_big_quiet_step (with_reducible first | exact cE _ _ | exact cF _ _) | quiet_step (with_reducible first | exact cE _ _ | exact cF _ _))
        refine wpQuiet_nil ?_
        intro _ hw'
        obtain ⟨⟨dq, osq⟩, hw''⟩ := hw'
        subst hw''
        clear cE cF x0 x1 x2 x3 x4 x5
        try rw [hr]
        clear hr
        have HB4 := Lib.hid (HBR.out.trans ((below_regrown wr dq osq).mono HBR.out.size))
        have R4 := Lib.hid (HRR.out.below (below_regrown wr dq osq) HRR.out.lt)
        have HO4 := Lib.hid (ownsRow_below HROW.out (below_regrown wr dq osq))
        generalize («Sort».grow (redrawn wr dq) osq) = w4 at HB4 R4 HO4 ⊢
        cases r
        · have HNO : Hid (¬ s ∈ chainP ss k) := Lib.hid (fun h => by have := HW.out.2 h; simp at this)
          have HE : Hid (((List.range (k + 1)).filter fun m => decide (s ∈ chainP ss m)) = pre) := Lib.hid (by rw [HST.out, if_neg HNO.out, List.append_nil])
          go_wp2
          go_roundw
          case rel => exact ⟨k + 1, by go_num, by omega, R4.out, by rw [HE.out]; exact HO4.out, HB4.out⟩
          case measure => simp only [intOf]; omega
        · have HNO : Hid (s ∈ chainP ss k) := Lib.hid (HW.out.1 rfl)
          have HE : Hid (((List.range (k + 1)).filter fun m => decide (s ∈ chainP ss m)) = pre ++ [k]) := Lib.hid (by rw [HST.out, if_pos HNO.out])
          obtain ⟨i0, hi0, hz0, hz1, hz2⟩ := info_parts infoInt
          have hn0 := (((HT.out.below HB4.out).tree.node k dk HDK.out).2.cell (i := 0) (v := .int .i64 (k : Int)) (by rfl))
          have hrow4 := HO4.out
          have hbs4 : w1.heap.size ≤ w4.heap.size := HB4.out.size
          go_wp2_with (at_builtin; refine wpList_append_own _ rfl _ _ 50 rfl w1.heap.size 3 i0 (.int .i64 0) 1 8 Tryd.underlying50 hi0 hz0 hz1 hz2 rfl (by decide) _ _ _ rfl (hrow4.alloc _) ⟨w4.heap.size, 0, none⟩ 1 1 [.int .i64 (k : Int)] rfl rfl ?c1 ?c2 ?c3 ?c4 ?c5 ?_)
          try (case c1 => exact cells_new _ _ _)
          try (case c2 => first | rfl | (intro u hu; simp only [List.mem_singleton] at hu; subst hu; rfl))
          try (case c3 => unfold maxLen; omega)
          try (case c4 => omega)
          try (case c5 => first | omega | (simp only [World.size_alloc]; omega))
          intro v' w5 hown' hgrow _
          have hR5 := (R4.out.alloc (.cells #[.int .i64 (k : Int)] 3)).grown hgrow (ownsRow_ne R4.out (by decide) HO4.out)
          have HR5 := Lib.hid hR5
          have HB5 : Hid (Below w1.heap.size w1 w5) := Lib.hid (HB4.out.trans (below_append HO4.out hgrow (Nat.le_refl w1.heap.size) HB4.out.size))
          have HO5 := Lib.hid hown'
          clear hrow4 hown' hgrow hR5
          go_wp2
          go_roundw
          case rel => exact ⟨k + 1, by go_num, by omega, HR5.out, by rw [HE.out, List.length_append, numVals_snoc]; exact HO5.out, HB5.out⟩
          case measure => simp only [intOf]; omega
      · obtain rfl : k = ds.length := by omega
        clear hR hb hrow
        go_wp2
        go_ret2
        exact .inr ⟨⟨HV.out, by omega, by have := HS.out; omega⟩, _, rfl, by have := ownsRow_lower HROW.out HB.out.size; rw [hdl] at this; exact this, HB.out.trans (HBR.out.mono HB.out.size)⟩
end Go.Proofs.YtoijapbffhkbbaaDoor
