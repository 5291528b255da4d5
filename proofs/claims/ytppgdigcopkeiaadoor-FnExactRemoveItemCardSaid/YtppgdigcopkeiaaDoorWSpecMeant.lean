/-
  The walks of the given l3MeantBy and l3Table. Conditions: the argument's memory holds the graph, and the table what its scopes import.
-/
import Derived.Test.YtppgdigcopkeiaaDoorWFrom
import Derived.Test.YtppgdigcopkeiaaDoorWModule
namespace Go.Proofs.YtppgdigcopkeiaaDoor
open Go Go.RowKit Go.Maps
attribute [local go_sem ↓] field_kind field_name field_scope
set_option maxRecDepth 100000 in
set_option maxHeartbeats 4000000 in
theorem specMeantBy_any (ss : List Sc) (hv : Valid ss) (oa : Option Addr) (cap : Nat) (k0 : Nat) (hk0 : k0 ≤ ss.length) (ot : Option Addr) (ct : Nat) (s : Nat) (hs : s ≤ k0) (hsl : s < ss.length) (nm : ByteArray) (w : World) (hc : HoldsScopes w oa ss) (ht : HoldsTab w ot (tabP ss k0)) :
    Calls Tryd.prog 172 #[.agg #[.slice oa ss.length cap], .slice ot k0 ct, .int .i64 s, .string nm] w (PlsGot (meantP ss s nm) w) := by
  have hb0 := (Below.refl w.heap.size w).alloc (Nat.le_refl _) (.cells #[.slice oa ss.length cap] 30)
  have R0 := Lib.hid (Row.new w [.slice oa ss.length cap] 30)
  have h6 := hv.count.2
  obtain ⟨c, hci⟩ : ∃ c, ss[s]? = some c := ⟨_, List.getElem?_eq_getElem hsl⟩
  obtain ⟨bb, off, rfl, hbb, hcell⟩ := hc.at (by omega)
  obtain ⟨oi, ci, a0, a1, -⟩ := hcell s c hci
  have HA0 : Hid (w.cell? ⟨bb, off + s * 2, none⟩ = some (.int .i64 c.parent)) := Lib.hid a0
  have C2 := Lib.hid (specL3Own_any ss hv (some ⟨bb, off, none⟩) cap s hsl nm _ (hc.below hb0 (Nat.le_refl _)))
  have HB0 := Lib.hid hb0
  have HC := Lib.hid hc
  have HT := Lib.hid ht
  have HV := Lib.hid hv
  have HCS := Lib.hid (hv.climbs.cases hci)
  have hol := ownP_length hv s nm
  clear hv hc ht hb0 hcell hci a0 a1
  go_enter Tryd.func172, Tryd.ntmps172
  go_wp2_with fail
  refine C2.out.mono ?_
  rintro e w2 ⟨u, rfl, hu, hb2⟩
  obtain ⟨ou, cu, rfl⟩ := ownsRow_slice hu
  have HB2 := Lib.hid (HB0.out.trans (hb2.mono HB0.out.size))
  have R2 := Lib.hid (R0.out.below hb2 R0.out.lt)
  have HU := Lib.hid (ownsRow_lower hu HB0.out.size)
  have g2 := R2.out.cell (i := 0) (by rfl)
  have a2 := (HB2.out.cell (p := ⟨bb, off + s * 2, none⟩) hbb).trans HA0.out
  have hsi : (s : Int) < (ss.length : Int) := by omega
  have hs0 : (0 : Int) ≤ (s : Int) := by omega
  clear hb2 hu
  by_cases hpos : 0 < (ownP ss s nm).length
  · have HE : Hid (meantP ss s nm = ownP ss s nm) := Lib.hid (meantP_own (isEmpty_pos hpos))
    go_wp2
    go_ret
    rw [HE.out]
    exact ⟨_, rfl, HU.out, HB2.out⟩
  · have hz : (ownP ss s nm).length = 0 := by omega
    have HEM := Lib.hid (isEmpty_zero hpos)
    have HNIL : Hid (ownP ss s nm = []) := Lib.hid (List.eq_nil_of_length_eq_zero hz)
    clear hpos
    rcases HCS.out with ⟨hz0, h1, h2⟩ | ⟨p, h1, hlt, h2⟩
    · rw [h1] at a2
      have HE : Hid (meantP ss s nm = []) := Lib.hid (meantP_none HEM.out h2)
      have HU0 : Hid (w2.ownsRow w.heap.size 34 2 (.slice ou 0 cu) 0 []) := Lib.hid (by have h := HU.out; rw [HNIL.out] at h; exact h)
      clear h1 h2 hz0
      go_wp2
      go_ret
      rw [HE.out]
      exact ⟨_, rfl, HU0.out, HB2.out⟩
    · rw [h1] at a2
      have HE : Hid (meantP ss s nm = (lookP ss p nm).places) := Lib.hid (meantP_par HEM.out h2)
      have hp0 : ¬ (p : Int) < 0 := by omega
      have hpk : p < k0 := by omega
      clear h1 h2
      go_wp2
      go_cut [12] (fun s12 wx => wx.ownsRow w.heap.size 34 2 s12 (lookP ss p nm).places.length (placeCells (lookP ss p nm).places) ∧ Below w2.heap.size w2 wx)
      case first =>
        go_region_held3 (fun w' => w'.cell? ⟨w.heap.size, 0, none⟩ = some (.slice (some ⟨bb, off, none⟩) ss.length cap) ∧ w'.cell? ⟨bb, off + s * 2, none⟩ = some (.int .i64 (p : Int)))
          (first | exact ⟨g2, a2⟩ | exact ⟨cell_drew g2, cell_drew a2⟩ | exact ⟨cell_grow hb3 (cell_drew g2), cell_grow hb3 (cell_drew a2)⟩)
          (first | (go_at_call 179; refine (specWayBy_any ss HV.out (some ⟨bb, off, none⟩) cap k0 hk0 ot ct p hpk nm _ (HC.out.below HB2.out.drew (Nat.le_refl _)) (HT.out.below HB2.out.drew)).mono ?_; rintro e w3 ⟨v3, rfl, hrow3, hb3⟩))
        all_goals go_wp2
        all_goals go_meet
        all_goals exact ⟨ownsRow_lower hrow3 HB2.out.size, ((Below.refl _ _).drew).trans hb3⟩
      case rest =>
        obtain ⟨hrow4, hbc⟩ := hcut
        have HO := Lib.hid (And.intro hrow4 (HB2.out.trans (hbc.mono HB2.out.size)))
        clear hbc hrow4 g2 a2
        go_wp2
        go_ret
        rw [HE.out]
        exact ⟨_, rfl, HO.out.1, HO.out.2⟩
end Go.Proofs.YtppgdigcopkeiaaDoor
