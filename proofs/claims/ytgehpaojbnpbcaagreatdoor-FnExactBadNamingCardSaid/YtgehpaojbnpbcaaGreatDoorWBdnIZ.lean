/-
  The walk of impl's BadNaming. Conditions: the argument's memory holds the graph, the errors of a tree and of a naming are there. (genbadi.py writes this text.)
-/
import Derived.Test.YtgehpaojbnpbcaaGreatDoorJPZ
import Derived.Test.YtgehpaojbnpbcaaGreatDoorWCollZ
import Derived.Test.YtgehpaojbnpbcaaGreatDoorWStayZ
import Derived.Test.YtgehpaojbnpbcaaGreatDoorWGdnSZ
namespace Go.Proofs.YtgehpaojbnpbcaaGreatDoor
open Go Go.RowKit
theorem stands_in_nmg {ss : List Sc} {nm : ByteArray} : StandsIn ss (nmgG ss nm) some := by
  rintro ⟨i, j, x⟩ hq p hp
  obtain rfl := Option.some.inj hp
  exact ⟨i, j, _, rfl, placed_ren hq⟩
set_option maxRecDepth 100000 in
set_option maxHeartbeats 4000000 in
theorem implBadNaming_any (ss : List Sc) (hF : Fair ss) (oa : Option Addr) (cap : Nat) (nm : ByteArray) (hns : nm.size ≤ 1048576) (w : World) (hc : HoldsScopes w oa ss) (hE : NmgErrs w) :
    Calls Tryz.prog 16 #[.agg #[.slice oa ss.length cap], .string nm] w (PlGot (nmgOk ss nm) (chgA ss (nmgG ss nm)) w) := by
  have hb0 : Below w.heap.size w (w.alloc (.cells #[.slice oa ss.length cap] 28)) := (Below.refl _ _).alloc (Nat.le_refl _) _
  have R1 := Lib.hid (Row.new w [.slice oa ss.length cap] 28)
  have C := Lib.hid (implNamed_any ss hF oa cap nm hns _ (hc.below hb0 (Nat.le_refl _)) (hE.at hb0))
  have HB := Lib.hid hb0
  have HF := Lib.hid hF
  have HC := Lib.hid hc
  have HE := Lib.hid hE
  have g1 := R1.out.cell (i := 0) (v := .slice oa ss.length cap) (by rfl)
  clear hF hc hE hb0
  go_enter Tryz.func16, Tryz.ntmps16
  go_wp2_with fail
  refine C.out.mono ?_
  rintro e w1 (⟨hn, v, hs, rfl, hO, hb1⟩ | ⟨hok, v, hs, rfl, hO, hb1⟩)
  · obtain ⟨ov, cv, rfl, -⟩ := hO.holds
    have hbx := hb1.trans (((Below.refl w1.heap.size w1).alloc (Nat.le_refl _) (.cells #[.slice ov ([] : List Sc).length cv] 28)).mono hb1.size)
    have HN := Lib.hid (And.intro hn (HB.out.trans (hbx.mono HB.out.size)))
    clear hn hO hb1 hbx
    go_wp2
    go_ret2
    exact .inl ⟨HN.out.1, rfl, HN.out.2⟩
  · have HOK := Lib.hid hok
    have HTF := Lib.hid (And.intro hok.valid (nmgOk.fair HF.out hok))
    have HST := Lib.hid (stands_in_nmg (ss := ss) (nm := nm))
    obtain ⟨tt, htt⟩ : ∃ tt, nmgG ss nm = tt := ⟨_, rfl⟩
    rw [htt] at hO HST HTF ⊢
    obtain ⟨ov, cv, rfl, -⟩ := hO.holds
    have hbN := (Below.refl w1.heap.size w1).alloc (Nat.le_refl _) (.cells #[.slice ov tt.length cv] 28)
    have hbx := hb1.trans (hbN.mono hb1.size)
    have HB1 := Lib.hid (HB.out.trans (hbx.mono HB.out.size))
    have R1a := Lib.hid (R1.out.below hbx R1.out.lt)
    have RX := (Row.new w1 [.slice ov tt.length cv] 28).cell (i := 0) (by rfl)
    have g1 := R1a.out.cell (i := 0) (v := .slice oa ss.length cap) (by rfl)
    have HTT := Lib.hid htt
    have C2 := Lib.hid (between_any ss tt HOK.out.1.1 HTF.out.1 HF.out HTF.out.2 oa ov cap cv (.func (.func 37) #[] #[]) some HST.out _ (HC.out.below HB1.out (Nat.le_refl _)) (hO.below hbN).holdsS (HE.out.at HB1.out).trees (stands_stay _))
    rw [chgG_add] at C2
    clear hok hO hb1 hbx hbN htt
    go_wp2_with fail
    refine C2.out.mono ?_
    rintro e w2 ⟨v2, rfl, hown, hb2⟩
    have HO := Lib.hid (And.intro (ownsRow_lower hown HB1.out.size) (HB1.out.trans (hb2.mono HB1.out.size)))
    clear hown hb2
    go_wp2
    go_ret2
    exact .inr ⟨HOK.out, v2, rfl, by rw [HTT.out]; exact HO.out.1, HO.out.2⟩
end Go.Proofs.YtgehpaojbnpbcaaGreatDoor
