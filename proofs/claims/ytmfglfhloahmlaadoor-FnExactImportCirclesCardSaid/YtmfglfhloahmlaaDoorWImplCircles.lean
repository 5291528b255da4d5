/-
  The walk of impl's ImportCircles. Conditions: the argument's memory holds the graph; the package-level errors hold errors.
-/
import Derived.Test.YtmfglfhloahmlaaDoorWReach
namespace Go.Proofs.YtmfglfhloahmlaaDoor
open Go Go.RowKit Go.Maps
theorem setV_none : setV (fun _ => false) = [.bool false, .bool false, .bool false, .bool false, .bool false, .bool false] := rfl
set_option maxRecDepth 100000 in
set_option maxHeartbeats 4000000 in
theorem implCircles_any (ss : List Sc) (hF : Fair ss) (oa : Option Addr) (cap : Nat) (w : World) (hc : HoldsScopes w oa ss) (hE : TreeErrs w) :
    Calls Tryd.prog 18 #[.agg #[.slice oa ss.length cap]] w (ListGot (Valid ss) (circP ss) w) := by
  have hb0 := (Below.refl w.heap.size w).alloc (Nat.le_refl _) (.cells #[.slice oa ss.length cap] 31)
  have C := Lib.hid (hF.tree oa cap _ (hc.below hb0 (Nat.le_refl _)) (hE.below hb0 hE.size))
  have HB0 := Lib.hid hb0
  clear hF hc hE hb0
  go_enter Tryd.func18, Tryd.ntmps18
  go_wp2_with fail
  refine C.out.mono ?_
  rintro e w1 (⟨hv, ⟨tp, p, rfl⟩, hb⟩ | ⟨hv, T, M1, M2, v, ds, rfl, hb, hT⟩)
  · have HV := Lib.hid hv
    have HB := Lib.hid (HB0.out.trans (hb.mono HB0.out.size))
    clear hv hb
    go_wp2
    go_ret2
    exact .inl ⟨HV.out, rfl, HB.out⟩
  · have HV := Lib.hid hv
    have HB := Lib.hid (HB0.out.trans (hb.mono HB0.out.size))
    have HT := Lib.hid hT
    clear hv hb hT
    go_wp2_with fail
    refine (lookupIn_any T _).mono ?_
    rintro e w2 ⟨rfl, hR, hM, hb2⟩
    have HB2 := Lib.hid (HB.out.trans (hb2.mono HB.out.size))
    have HLW := Lib.hid (LookW.mk (HT.out.below hb2) hR (memo_nil hM) (by obtain ⟨_, h⟩ := HT.out.items; have := h.lt; omega) (by obtain ⟨_, h⟩ := HT.out.mods; have := h.lt; omega))
    have HMB : Hid (w.heap.size ≤ w1.heap.size) := Lib.hid HB.out.size
    obtain ⟨gp, capp, rfl, hgB, hgp, hslot0⟩ := HLW.out.tree.tree.slot (HLW.out.tree.ne HV.out)
    have t0 := HLW.out.tree.tree.box.cell (i := 0) (by rfl)
    have hdl := HLW.out.tree.hold.len
    have h6 := HV.out.count.2
    have HDL := Lib.hid hdl
    rw [hdl] at t0
    clear hR hM hb2 hslot0 hdl
    go_wp2
    go_loopw [7, 25] (fun u i wr => ∃ k : Nat, i = .int .i64 k ∧ k ≤ ss.length ∧ Hid (wr.ownsRow w2.heap.size 3 1 u (circUp ss k).length (numVals (circUp ss k)) ∧ Left w2 wr (w.alloc (.cells #[.slice oa ss.length cap] 31)).heap.size (w1.heap.size + 1) w1.heap.size T M1 M2 (.slice (some ⟨gp, 0, none⟩) ds.length capp) ds ss ∧ Below w.heap.size w wr)) (fun _ i _ => ss.length - (intOf i).toNat)
    case atStart => exact ⟨0, rfl, Nat.zero_le _, Lib.hid ⟨World.ownsRow_nil _ _ _ _, HLW.out.left, HB2.out⟩⟩
    case round =>
      obtain ⟨k, rfl, hk, hP⟩ := hrel
      by_cases hlt : k < ss.length
      · obtain ⟨d, hd⟩ : ∃ d, ds[k]? = some d := ⟨_, List.getElem?_eq_getElem (by have := HDL.out; omega)⟩
        obtain ⟨gp2, capp2, he2, -, -, hslot⟩ := hP.out.2.1.look.tree.tree.slot (by intro e; rw [e] at hd; simp at hd)
        simp only [Value.slice.injEq, Option.some.injEq, Addr.mk.injEq, and_true, true_and] at he2
        obtain ⟨rfl, rfl⟩ := he2
        have s0 := hslot k d hd
        unfold Nd.ptr at s0
        have hbA := (Below.refl wr.heap.size wr).alloc (Nat.le_refl _) (.cells #[.bool false, .bool false, .bool false, .bool false, .bool false, .bool false] 94)
        have HA := Lib.hid (hP.out.2.1.step hbA)
        have HSET : Hid (Row (wr.alloc (.cells #[.bool false, .bool false, .bool false, .bool false, .bool false, .bool false] 94)) wr.heap.size 94 (setV fun _ => false)) := Lib.hid (Row.new wr [.bool false, .bool false, .bool false, .bool false, .bool false, .bool false] 94)
        have C2 := Lib.hid (reach_any HV.out _ (fun _ => false) (Nat.le_refl _) k d hd _ HA.out.look HSET.out)
        have HD := Lib.hid hd
        have HST := Lib.hid (circUp_snoc ss k)
        have hcl := circUp_length ss k
        have HBA := Lib.hid hbA
        clear hslot hd hbA
        go_wp2_with fail
        refine C2.out.mono ?_
        rintro e w3 ⟨rfl, S', hr⟩
        have HT3 : Hid (Turns wr w3 w1.heap.size w1.heap.size) := Lib.hid (by
          have h1 := (Turns.of_below (M1 := w1.heap.size) (M2 := wr.heap.size) HBA.out).trans hr.turns
          exact ⟨h1.os, h1.tape, h1.output, h1.size, fun g hg h2 _ => h1.rest g hg h2 (by omega)⟩)
        have HL3 : Hid (Left w2 w3 (w.alloc (.cells #[.slice oa ss.length cap] 31)).heap.size (w1.heap.size + 1) w1.heap.size T M1 M2 (.slice (some ⟨gp, 0, none⟩) ds.length capp) ds ss) := Lib.hid ⟨hr.look, hP.out.2.1.turns.trans HT3.out⟩
        have HU3 := Lib.hid (ownsRow_turned hP.out.1 HT3.out hP.out.2.1.look.memo)
        have HB3 := Lib.hid (hP.out.2.2.trans (HT3.out.below HB.out.size HB.out.size hP.out.2.2.size))
        have hk6 : k < 6 := by omega
        have q0 := hr.set.cell (setV_get S' k hk6)
        have hre := hr.dfs.reach k
        rw [hre] at q0
        have m0 := (hr.look.tree.tree.node k d HD.out).2.cell (i := 0) (v := .int .i64 (k : Int)) (by rfl)
        clear s0 hr hre
        cases hq : reachB ss k k
        · rw [hq] at q0
          have HE : Hid (circUp ss (k + 1) = circUp ss k) := Lib.hid (by rw [HST.out, hq]; simp)
          clear hq
          go_wp2
          go_roundw
          case rel => exact ⟨k + 1, by go_num, by omega, Lib.hid (by rw [HE.out]; exact ⟨HU3.out, HL3.out, HB3.out⟩)⟩
          case measure => simp only [intOf]; omega
        · rw [hq] at q0
          have HE : Hid (circUp ss (k + 1) = circUp ss k ++ [k]) := Lib.hid (by rw [HST.out, hq]; simp)
          clear hq
          obtain ⟨i0, hi0, hz0, hz1, hz2⟩ := info_parts infoInt
          have hbs := HB3.out.size
          have hbs2 : w2.heap.size ≤ w3.heap.size := HL3.out.turns.size
          go_wp2_with (at_builtin; refine wpList_append_own _ rfl _ _ 26 rfl w2.heap.size 3 i0 (.int .i64 0) 1 8 Tryd.underlying26 hi0 hz0 hz1 hz2 rfl (by decide) _ _ _ rfl (HU3.out.alloc _) ⟨w3.heap.size, 0, none⟩ 1 1 [.int .i64 (k : Int)] rfl rfl ?c1 ?c2 ?c3 ?c4 ?c5 ?_)
          case c1 => exact cells_new _ _ _
          case c2 => intro u hu; simp only [List.mem_singleton] at hu; subst hu; rfl
          case c3 => unfold maxLen; omega
          case c4 => omega
          case c5 => simp only [World.size_alloc]; omega
          intro v' w6 hown' hgrow _
          have HB6 := Lib.hid (HB3.out.trans (below_append2 HU3.out hgrow HB2.out.size hbs))
          have HU6 := Lib.hid hown'
          have HL6 : Hid (Left w2 w6 (w.alloc (.cells #[.slice oa ss.length cap] 31)).heap.size (w1.heap.size + 1) w1.heap.size T M1 M2 (.slice (some ⟨gp, 0, none⟩) ds.length capp) ds ss) := Lib.hid (Left.far HLW.out HL3.out (below_append2 HU3.out hgrow (Nat.le_refl w2.heap.size) hbs2))
          clear hown' hgrow
          go_wp2
          go_roundw
          case rel => exact ⟨k + 1, by go_num, by omega, Lib.hid (by rw [HE.out, List.length_append, numVals_snoc]; exact ⟨HU6.out, HL6.out, HB6.out⟩)⟩
          case measure => simp only [intOf]; omega
      · obtain rfl : k = ss.length := by omega
        go_wp2
        go_ret2
        exact .inr ⟨HV.out, _, rfl, ownsRow_lower hP.out.1 HB2.out.size, hP.out.2.2⟩
end Go.Proofs.YtmfglfhloahmlaaDoor
