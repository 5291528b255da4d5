/-
  The walks of impl's ImportedScopes, ImportedOf and LookUp. Conditions: the argument's memory holds the graph; the package-level errors hold errors.
-/
import Derived.Test.YtjogfagjcpcihaaGreatDoorJEY
namespace Go.Proofs.YtjogfagjcpcihaaGreatDoor
open Go Go.RowKit Go.Maps
attribute [local go_sem ↓] field_places
set_option maxRecDepth 100000 in
theorem implLookUp_any (ss : List Sc) (hF : Fair ss) (oa : Option Addr) (cap : Nat) (n : Int) (nm : ByteArray) (w : World) (hc : HoldsScopes w oa ss) (hE : NameErrs w) :
    Calls Tryz.prog 25 #[.agg #[.slice oa ss.length cap], .int .i64 n, .string nm] w (PlGot (ownOk ss n nm) ((lookP ss n.toNat nm).places) w) := by
  have hb0 := (Below.refl w.heap.size w).alloc (Nat.le_refl _) (.cells #[.slice oa ss.length cap] 33)
  have C := Lib.hid (lookupOf_any ss hF oa cap n nm _ (hc.below hb0 (Nat.le_refl _)) (hE.at hb0))
  have HB0 := Lib.hid hb0
  clear hF hc hE hb0
  go_enter Tryz.func25, Tryz.ntmps25
  go_wp2_with fail
  refine C.out.mono ?_
  rintro e w1 (⟨hn, ⟨tp, p, rfl⟩, hb⟩ | ⟨ho, s, d, L, M, T, M1, M2, v, ds, rfl, hs, hd, rfl, hb, hT, hLI, -, hMl, hn1, hn2⟩)
  · have HN := Lib.hid hn
    have HB := Lib.hid (HB0.out.trans (hb.mono HB0.out.size))
    clear hn hb
    go_wp2
    go_ret2
    exact .inl ⟨HN.out, rfl, HB.out⟩
  · have HO := Lib.hid ho
    have HB := Lib.hid (HB0.out.trans (hb.mono HB0.out.size))
    have HLW := Lib.hid (LookW.mk hT hLI.box (memo_nil hLI.map) hn1 hn2)
    have HML := Lib.hid hMl
    have C2 := Lib.hid (find_node ho.1.1 HLW.out hd (fun m _ => target_any ho.1.1 m) nm)
    clear ho hb hT hd hs hLI hMl hn1 hn2
    go_wp2_with fail
    refine C2.out.mono ?_
    rintro e w2 ⟨v, rfl, hrow, hl2⟩
    have HB2 := Lib.hid (HB.out.trans (hl2.turns.below (Nat.le_trans HB0.out.size HML.out) (Nat.le_trans HB0.out.size HML.out) HB.out.size))
    have HR := Lib.hid (ownsRow_lower hrow HB.out.size)
    obtain ⟨ov, cv, rfl⟩ := ownsRow_slice hrow
    clear hl2 hrow
    go_wp2
    go_ret2
    exact .inr ⟨HO.out, _, rfl, HR.out, HB2.out⟩
end Go.Proofs.YtjogfagjcpcihaaGreatDoor
