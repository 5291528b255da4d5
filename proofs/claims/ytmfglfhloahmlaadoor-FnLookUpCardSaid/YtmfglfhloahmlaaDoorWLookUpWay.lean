/-
  The walks of LookUpWay, the given one's and impl's. Conditions: the argument's memory holds the graph; the package-level errors hold errors.
-/
import Derived.Test.YtmfglfhloahmlaaDoorWSpecLook
import Derived.Test.YtmfglfhloahmlaaDoorWTarget
namespace Go.Proofs.YtmfglfhloahmlaaDoor
open Go Go.RowKit Go.Maps
theorem field_at (a b : Int) (oa : Option Addr) (n c : Nat) (w : World) : (Instr.field 130 (.agg #[.int .i64 a, .int .i64 b, .slice oa n c]) 0).run Tryd.prog w = .ok (.int .i64 a) w := by kernel_rfl
theorem field_way (a b : Int) (oa : Option Addr) (n c : Nat) (w : World) : (Instr.field 130 (.agg #[.int .i64 a, .int .i64 b, .slice oa n c]) 1).run Tryd.prog w = .ok (.int .i64 b) w := by kernel_rfl
attribute [local go_sem ↓] field_at field_way
/-- What LookUpWay answers. -/
def wayR (ss : List Sc) (n : Int) (nm : ByteArray) (z y : Int) : Prop := (¬ ownOk ss n nm ∧ z = -1 ∧ y = 0) ∨ (ownOk ss n nm ∧ z = (lookP ss n.toNat nm).scope ∧ y = (lookP ss n.toNat nm).way)
theorem wayR.same {ss : List Sc} {n : Int} {nm : ByteArray} {z y z' y' : Int} (h : wayR ss n nm z y) (k : wayR ss n nm z' y') : z = z' ∧ y = y' := by
  rcases h with ⟨h1, rfl, rfl⟩ | ⟨h1, rfl, rfl⟩ <;> rcases k with ⟨k1, rfl, rfl⟩ | ⟨k1, rfl, rfl⟩
  · exact ⟨rfl, rfl⟩
  · exact absurd k1 h1
  · exact absurd h1 k1
  · exact ⟨rfl, rfl⟩
set_option maxRecDepth 100000 in
theorem specLookUpWay_any (ss : List Sc) (hf : FitsScopes ss) (oa : Option Addr) (cap : Nat) (n : Int) (nm : ByteArray) (w : World) (hc : HoldsScopes w oa ss) :
    Calls Tryd.prog 37 #[.agg #[.slice oa ss.length cap], .int .i64 n, .string nm] w fun e w' => ∃ z y, e = .returned (.tuple #[.int .i64 z, .int .i64 y]) ∧ wayR ss n nm z y ∧ Below w.heap.size w w' := by
  have hb0 := (Below.refl w.heap.size w).alloc (Nat.le_refl _) (.cells #[.slice oa ss.length cap] 31)
  have C := Lib.hid (asked_any ss hf oa cap n nm _ (hc.below hb0 (Nat.le_refl _)))
  have R := Lib.hid (Row.new w [.slice oa ss.length cap] 31)
  have HB0 := Lib.hid hb0
  have HC := Lib.hid hc
  have HF := Lib.hid hf
  clear hf hc hb0
  go_enter Tryd.func37, Tryd.ntmps37
  go_wp2_with fail
  refine C.out.mono ?_
  rintro e w1 ⟨b, rfl, hv, hb⟩
  have HB := Lib.hid (HB0.out.trans (hb.mono HB0.out.size))
  have R1 := Lib.hid (R.out.below hb R.out.lt)
  have c1 := R1.out.cell (i := 0) (by rfl)
  have HV := Lib.hid hv
  clear hb hv
  cases b
  · have HN : Hid (¬ ownOk ss n nm) := Lib.hid (fun h => by have := HV.out.2 h; cases this)
    go_wp2
    go_ret2
    exact ⟨_, _, rfl, .inl ⟨HN.out, rfl, rfl⟩, HB.out⟩
  · have HH := Lib.hid (HV.out.1 rfl)
    obtain ⟨s, rfl⟩ : ∃ s : Nat, n = (s : Int) := ⟨n.toNat, by have := HH.out.1.2.1; omega⟩
    have C2 := Lib.hid (specWay_any ss HH.out.1.1 HF.out oa cap s (by have := HH.out.1.2.2; omega) nm _ (HC.out.below HB.out (Nat.le_refl _)))
    go_wp2_with fail
    refine C2.out.mono ?_
    rintro e w2 ⟨v, rfl, hrow, hb2⟩
    obtain ⟨ov, cv, rfl⟩ := ownsRow_slice hrow
    have HB2 := Lib.hid (HB.out.trans (hb2.mono HB.out.size))
    clear hb2 hrow
    go_wp2
    go_ret2
    exact ⟨_, _, rfl, .inr ⟨HH.out, rfl, rfl⟩, HB2.out⟩
set_option maxRecDepth 100000 in
theorem implLookUpWay_any (ss : List Sc) (hF : Fair ss) (oa : Option Addr) (cap : Nat) (n : Int) (nm : ByteArray) (w : World) (hc : HoldsScopes w oa ss) (hE : NameErrs w) :
    Calls Tryd.prog 38 #[.agg #[.slice oa ss.length cap], .int .i64 n, .string nm] w fun e w' => ∃ z y, e = .returned (.tuple #[.int .i64 z, .int .i64 y]) ∧ wayR ss n nm z y ∧ Below w.heap.size w w' := by
  have hb0 := (Below.refl w.heap.size w).alloc (Nat.le_refl _) (.cells #[.slice oa ss.length cap] 31)
  have C := Lib.hid (lookupOf_any ss hF oa cap n nm _ (hc.below hb0 (Nat.le_refl _)) (hE.at hb0))
  have HB0 := Lib.hid hb0
  clear hF hc hE hb0
  go_enter Tryd.func38, Tryd.ntmps38
  go_wp2_with fail
  refine C.out.mono ?_
  rintro e w1 (⟨hn, ⟨tp, p, rfl⟩, hb⟩ | ⟨ho, s, d, L, M, T, M1, M2, v, ds, rfl, hs, hd, rfl, hb, hT, hLI, -, hMl, hn1, hn2⟩)
  · have HN := Lib.hid hn
    have HB := Lib.hid (HB0.out.trans (hb.mono HB0.out.size))
    clear hn hb
    go_wp2
    go_ret2
    exact ⟨_, _, rfl, .inl ⟨HN.out, rfl, rfl⟩, HB.out⟩
  · have HO := Lib.hid ho
    have HB := Lib.hid (HB0.out.trans (hb.mono HB0.out.size))
    have HLW := Lib.hid (LookW.mk hT hLI.box (memo_nil hLI.map) hn1 hn2)
    have HML := Lib.hid hMl
    have C2 := Lib.hid (find_node ho.1.1 HLW.out hd (fun m _ => target_any ho.1.1 m) nm)
    clear ho hb hT hd hs hLI hMl hn1 hn2
    go_wp2_with fail
    refine C2.out.mono ?_
    rintro e w2 ⟨v, rfl, hrow, hl2⟩
    have HB2 := Lib.hid (HB.out.trans (hl2.turns.below (Nat.le_trans HB0.out.size HML.out) (Nat.le_trans HB0.out.size HML.out) HB.out.size))
    obtain ⟨ov, cv, rfl⟩ := ownsRow_slice hrow
    clear hl2 hrow
    go_wp2
    go_region
    all_goals go_wp2
    all_goals go_ret2
    all_goals exact ⟨_, _, rfl, .inr ⟨HO.out, rfl, rfl⟩, (HB2.out.alloc HB2.out.size _).drew⟩
end Go.Proofs.YtmfglfhloahmlaaDoor
