/-
  The walks of the given BadNaming and IsGoodNaming. Condition: the argument's memory holds the graph. (gengdns.py writes this text.)
-/
import Derived.Test.YtgehpaojbnpbcaaGreatDoorWRenS2Z
import Derived.Test.YtgehpaojbnpbcaaGreatDoorJGZ
namespace Go.Proofs.YtgehpaojbnpbcaaGreatDoor
open Go Go.RowKit
theorem nmg_stays {ss : List Sc} {nm : ByteArray} : ∀ i j x, (i, j, x) ∈ placed 0 ss → ∃ y, (i, j, y) ∈ placed 0 (nmgG ss nm) := fun _ _ _ h => ⟨_, placed_ren h⟩
set_option maxRecDepth 100000 in
set_option maxHeartbeats 4000000 in
theorem specBadNaming_any (ss : List Sc) (hF : Fair ss) (oa : Option Addr) (cap : Nat) (nm : ByteArray) (hns : nm.size ≤ 1048576) (w : World) (hc : HoldsScopes w oa ss) :
    Calls Tryz.prog 15 #[.agg #[.slice oa ss.length cap], .string nm] w (PlGot2 (nmgOk ss nm) (chgA ss (nmgG ss nm)) w) := by
  have hb0 : Below w.heap.size w (w.alloc (.cells #[.slice oa ss.length cap] 28)) := (Below.refl _ _).alloc (Nat.le_refl _) _
  have R1 := Lib.hid (Row.new w [.slice oa ss.length cap] 28)
  have C := Lib.hid (specNamed_any ss hF oa cap nm hns _ (hc.below hb0 (Nat.le_refl _)))
  have HB := Lib.hid hb0
  have HF := Lib.hid hF
  have HC := Lib.hid hc
  have g1 := R1.out.cell (i := 0) (v := .slice oa ss.length cap) (by rfl)
  clear hF hc hb0
  go_enter Tryz.func15, Tryz.ntmps15
  go_wp2_with fail
  refine C.out.mono ?_
  rintro e w1 (⟨hn, v, hs, rfl, hO, hb1⟩ | ⟨hok, v, hs, rfl, hO, hb1⟩)
  · obtain ⟨ov, cv, rfl, -⟩ := hO.holds
    have hbx := hb1.trans ((((Below.refl w1.heap.size w1).alloc (Nat.le_refl _) (.cells #[.slice ov ([] : List Sc).length cv] 28)).alloc (by simp) (.cells #[] 59)).mono hb1.size)
    have HN := Lib.hid (And.intro hn (HB.out.trans (hbx.mono HB.out.size)))
    clear hn hO hb1 hbx
    go_wp2
    go_ret2
    exact .inl ⟨HN.out.1, _, rfl, HN.out.2⟩
  · have HOK := Lib.hid hok
    have HTF := Lib.hid (And.intro hok.valid (nmgOk.fair HF.out hok))
    have hst := Lib.hid (nmg_stays (ss := ss) (nm := nm))
    obtain ⟨tt, htt⟩ : ∃ tt, nmgG ss nm = tt := ⟨_, rfl⟩
    rw [htt] at hO hst HTF ⊢
    obtain ⟨ov, cv, rfl, -⟩ := hO.holds
    have hbN := (Below.refl w1.heap.size w1).alloc (Nat.le_refl _) (.cells #[.slice ov tt.length cv] 28)
    have hbx := hb1.trans (hbN.mono hb1.size)
    have HB1 := Lib.hid (HB.out.trans (hbx.mono HB.out.size))
    have R1a := Lib.hid (R1.out.below hbx R1.out.lt)
    have RX := (Row.new w1 [.slice ov tt.length cv] 28).cell (i := 0) (by rfl)
    have g1 := R1a.out.cell (i := 0) (v := .slice oa ss.length cap) (by rfl)
    have HTT := Lib.hid htt
    have C2 := Lib.hid (l7Changes_any ss tt HOK.out.1.1 HTF.out.1 HF.out.fits HTF.out.2.fits hst.out oa ov cap cv _ (HC.out.below HB1.out (Nat.le_refl _)) (hO.below hbN).holdsS)
    clear hok hO hb1 hbx hbN htt
    go_wp2_with fail
    refine C2.out.mono ?_
    rintro e w2 ⟨v2, rfl, hown, hb2⟩
    have HO := Lib.hid (And.intro (ownsRow_lower hown HB1.out.size) (HB1.out.trans (hb2.mono HB1.out.size)))
    clear hown hb2
    go_wp2
    go_ret2
    exact .inr ⟨HOK.out, v2, rfl, by rw [HTT.out]; exact HO.out.1, HO.out.2⟩
end Go.Proofs.YtgehpaojbnpbcaaGreatDoor
