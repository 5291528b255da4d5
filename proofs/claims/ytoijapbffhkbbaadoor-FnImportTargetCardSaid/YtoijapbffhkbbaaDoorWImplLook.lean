/-
  The walks of impl's ImportedScopes, ImportedOf and LookUp. Conditions: the argument's memory holds the graph; the package-level errors hold errors.
-/
import Derived.Test.YtoijapbffhkbbaaDoorWTarget
namespace Go.Proofs.YtoijapbffhkbbaaDoor
open Go Go.RowKit Go.Maps
attribute [local go_sem ↓] field_places
set_option maxRecDepth 100000 in
theorem implImportedOf_any (ss : List Sc) (hF : Fair ss) (oa : Option Addr) (cap : Nat) (n : Int) (nm : ByteArray) (w : World) (hc : HoldsScopes w oa ss) (hE : NameErrs w) :
    Calls Tryd.prog 36 #[.agg #[.slice oa ss.length cap], .int .i64 n, .string nm] w (PlGot (ownOk ss n nm) (fromP ss (impP ss n.toNat) nm) w) := by
  have hb0 := (Below.refl w.heap.size w).alloc (Nat.le_refl _) (.cells #[.slice oa ss.length cap] 30)
  have C := Lib.hid (lookupOf_any ss hF oa cap n nm _ (hc.below hb0 (Nat.le_refl _)) (hE.at hb0))
  have HB0 := Lib.hid hb0
  clear hF hc hE hb0
  go_enter Tryd.func36, Tryd.ntmps36
  go_wp2_with fail
  refine C.out.mono ?_
  rintro e w1 (⟨hn, ⟨tp, p, rfl⟩, hb⟩ | ⟨ho, s, d, L, M, T, M1, M2, v, ds, rfl, hs, hd, rfl, hb, hT, hLI, -, hMl, hn1, hn2⟩)
  · have HN := Lib.hid hn
    have HB := Lib.hid (HB0.out.trans (hb.mono HB0.out.size))
    clear hn hb
    go_wp2
    go_ret2
    exact .inl ⟨HN.out, rfl, HB.out⟩
  · have HO := Lib.hid ho
    have HB := Lib.hid (HB0.out.trans (hb.mono HB0.out.size))
    have HLW := Lib.hid (LookW.mk hT hLI.box (memo_nil hLI.map) hn1 hn2)
    have HML := Lib.hid hMl
    have C2 := Lib.hid (imported_any ho.1.1 HLW.out hd (target_any ho.1.1 s) nm)
    clear ho hb hT hd hs hLI hMl hn1 hn2
    go_wp2_with fail
    refine C2.out.mono ?_
    rintro e w2 ⟨v, rfl, hrow, hl2⟩
    have HB2 := Lib.hid (HB.out.trans (hl2.turns.below (Nat.le_trans HB0.out.size HML.out) (Nat.le_trans HB0.out.size HML.out) HB.out.size))
    have HR := Lib.hid (ownsRow_lower hrow HB.out.size)
    clear hl2 hrow
    go_wp2
    go_ret2
    exact .inr ⟨HO.out, v, rfl, HR.out, HB2.out⟩
set_option maxRecDepth 100000 in
theorem implLookUp_any (ss : List Sc) (hF : Fair ss) (oa : Option Addr) (cap : Nat) (n : Int) (nm : ByteArray) (w : World) (hc : HoldsScopes w oa ss) (hE : NameErrs w) :
    Calls Tryd.prog 58 #[.agg #[.slice oa ss.length cap], .int .i64 n, .string nm] w (PlGot (ownOk ss n nm) ((lookP ss n.toNat nm).places) w) := by
  have hb0 := (Below.refl w.heap.size w).alloc (Nat.le_refl _) (.cells #[.slice oa ss.length cap] 30)
  have C := Lib.hid (lookupOf_any ss hF oa cap n nm _ (hc.below hb0 (Nat.le_refl _)) (hE.at hb0))
  have HB0 := Lib.hid hb0
  clear hF hc hE hb0
  go_enter Tryd.func58, Tryd.ntmps58
  go_wp2_with fail
  refine C.out.mono ?_
  rintro e w1 (⟨hn, ⟨tp, p, rfl⟩, hb⟩ | ⟨ho, s, d, L, M, T, M1, M2, v, ds, rfl, hs, hd, rfl, hb, hT, hLI, -, hMl, hn1, hn2⟩)
  · have HN := Lib.hid hn
    have HB := Lib.hid (HB0.out.trans (hb.mono HB0.out.size))
    clear hn hb
    go_wp2
    go_ret2
    exact .inl ⟨HN.out, rfl, HB.out⟩
  · have HO := Lib.hid ho
    have HB := Lib.hid (HB0.out.trans (hb.mono HB0.out.size))
    have HLW := Lib.hid (LookW.mk hT hLI.box (memo_nil hLI.map) hn1 hn2)
    have HML := Lib.hid hMl
    have C2 := Lib.hid (find_node ho.1.1 HLW.out hd (fun m _ => target_any ho.1.1 m) nm)
    clear ho hb hT hd hs hLI hMl hn1 hn2
    go_wp2_with fail
    refine C2.out.mono ?_
    rintro e w2 ⟨v, rfl, hrow, hl2⟩
    have HB2 := Lib.hid (HB.out.trans (hl2.turns.below (Nat.le_trans HB0.out.size HML.out) (Nat.le_trans HB0.out.size HML.out) HB.out.size))
    have HR := Lib.hid (ownsRow_lower hrow HB.out.size)
    obtain ⟨ov, cv, rfl⟩ := ownsRow_slice hrow
    clear hl2 hrow
    go_wp2
    go_ret2
    exact .inr ⟨HO.out, _, rfl, HR.out, HB2.out⟩
set_option maxRecDepth 100000 in
theorem implImportedScopes_any (ss : List Sc) (hF : Fair ss) (oa : Option Addr) (cap : Nat) (n : Int) (w : World) (hc : HoldsScopes w oa ss) (hE : NodeErrs w) :
    Calls Tryd.prog 37 #[.agg #[.slice oa ss.length cap], .int .i64 n] w (ListGot (HasScope ss n) (impP ss n.toNat) w) := by
  have hb0 := (Below.refl w.heap.size w).alloc (Nat.le_refl _) (.cells #[.slice oa ss.length cap] 30)
  have C := Lib.hid (nodeOf_any ss hF oa cap n _ (hc.below hb0 (Nat.le_refl _)) (hE.at hb0))
  have HB0 := Lib.hid hb0
  clear hF hc hE hb0
  go_enter Tryd.func37, Tryd.ntmps37
  go_wp2_with fail
  refine C.out.mono ?_
  rintro e w1 (⟨hv, ⟨tp, p, rfl⟩, hb⟩ | ⟨hv, s, d, T, M1, M2, v, ds, rfl, hs, hd, rfl, hb, hT⟩)
  · have HV := Lib.hid hv
    have HB := Lib.hid (HB0.out.trans (hb.mono HB0.out.size))
    clear hv hb
    go_wp2
    go_ret2
    exact .inl ⟨HV.out, rfl, HB.out⟩
  · have HV : Hid (HasScope ss (s : Int)) := Lib.hid ⟨hv, by omega, by omega⟩
    have HB := Lib.hid (HB0.out.trans (hb.mono HB0.out.size))
    have HT := Lib.hid hT
    have HD := Lib.hid hd
    clear hv hb hT hd hs
    go_wp2_with fail
    refine (lookupIn_any T _).mono ?_
    rintro e w2 ⟨rfl, hR, hM, hb2⟩
    have HB2 := Lib.hid (HB.out.trans (hb2.mono HB.out.size))
    have HLW := Lib.hid (LookW.mk (HT.out.below hb2) hR (memo_nil hM) (by obtain ⟨_, h⟩ := HT.out.items; have := h.lt; omega) (by obtain ⟨_, h⟩ := HT.out.mods; have := h.lt; omega))
    have C2 := Lib.hid (importsOf_any HV.out.1 HLW.out HD.out (target_any HV.out.1 s))
    clear hR hM hb2
    go_wp2_with fail
    refine C2.out.mono ?_
    rintro e w3 ⟨u, rfl, hrow, hl3⟩
    have HB3 := Lib.hid (HB2.out.trans (hl3.turns.below HB.out.size HB.out.size HB2.out.size))
    have HR := Lib.hid (ownsRow_lower hrow HB2.out.size)
    clear hl3 hrow
    go_wp2
    go_ret2
    exact .inr ⟨HV.out, u, rfl, HR.out, HB3.out⟩
end Go.Proofs.YtoijapbffhkbbaaDoor
