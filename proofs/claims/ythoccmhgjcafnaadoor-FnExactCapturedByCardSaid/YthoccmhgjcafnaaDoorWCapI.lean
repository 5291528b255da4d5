/-
  The walks of impl's changedByAdding, CapturedBy, ImportChanges and CanAdd. Conditions: the argument's memory holds the graph; the package-level errors hold errors.
-/
import Derived.Test.YthoccmhgjcafnaaDoorWAddI
import Derived.Test.YthoccmhgjcafnaaDoorCanV
import Derived.Test.YthoccmhgjcafnaaDoorWColl
import Derived.Test.YthoccmhgjcafnaaDoorWStay
import Derived.Test.YthoccmhgjcafnaaDoorWSpecAddT
namespace Go.Proofs.YthoccmhgjcafnaaDoor
open Go Go.RowKit
theorem nameB_short {nm : ByteArray} (h : nameB nm = true) : nm.size ≤ 2 ^ 63 - 1 := by
  have h1 : nm.data.toList.length = nm.size := by rw [Array.length_toList]; rfl
  unfold nameB at h
  rcases hd : nm.data.toList with _ | ⟨b, _ | ⟨c, r⟩⟩
  · rw [hd] at h; cases h
  · rw [hd] at h1; simp only [List.length_cons, List.length_nil] at h1; omega
  · rw [hd] at h; cases h
theorem addOk.fair {ss : List Sc} (hF : Fair ss) {n kind : Int} {nm : ByteArray} (h : addOk ss n nm) (hk : kind = 1 ∨ kind = 3) : Fair (addAt ss n kind nm) := by
  obtain ⟨⟨hv, i, c, rfl, hci, hl⟩, hn⟩ := h
  unfold addAt
  rw [Int.toNat_natCast]
  exact Fair.add hF hci hl (nameB_short hn) (by rcases hk with rfl | rfl <;> (unfold Sg.I64; dsimp only; omega))
theorem stands_in_add {ss : List Sc} {n kind : Int} {nm : ByteArray} : StandsIn ss (addAt ss n kind nm) some := by
  rintro ⟨i, j, x⟩ hq p hp
  obtain rfl := Option.some.inj hp
  exact ⟨i, j, x, rfl, placed_add hq⟩
set_option maxRecDepth 100000 in
set_option maxHeartbeats 4000000 in
theorem changedByAdding_any (ss : List Sc) (hF : Fair ss) (oa : Option Addr) (cap : Nat) (n kind : Int) (hk : kind = 1 ∨ kind = 3) (nm : ByteArray) (w : World) (hc : HoldsScopes w oa ss) (hE : AddErrs w) :
    Calls Tryd.prog 26 #[.agg #[.slice oa ss.length cap], .int .i64 n, .int .i64 kind, .string nm] w (PlGot (addOk ss n nm) (chgA ss (addAt ss n kind nm)) w) := by
  have hb0 : Below w.heap.size w (w.alloc (.cells #[.slice oa ss.length cap] 31)) := (Below.refl _ _).alloc (Nat.le_refl _) _
  have R1 := Row.new w [.slice oa ss.length cap] 31
  have C := Lib.hid (adding_any ss hF oa cap n kind nm _ (hc.below hb0 (Nat.le_refl _)) (hE.at hb0))
  have HB := Lib.hid hb0
  have HR := Lib.hid R1
  have HF := Lib.hid hF
  have HK := Lib.hid hk
  have HC := Lib.hid hc
  have HE := Lib.hid hE
  have g1 := R1.cell (i := 0) (by rfl)
  clear hF hc hE hb0 R1 hk
  go_enter Tryd.func26, Tryd.ntmps26
  go_wp2_with fail
  refine C.out.mono ?_
  rintro e w1 (⟨hn, ⟨tp, p, rfl⟩, hb⟩ | ⟨i, c, v, hs, rfl, hv, hci, hl5, hnm, rfl, hO, hb⟩)
  · have HN : Hid (¬ addOk ss n nm) := Lib.hid hn
    have hbx := hb.trans ((((Below.refl w1.heap.size w1).alloc (Nat.le_refl _) (.cells #[.slice none 0 0] 31)).alloc (by simp) (.cells #[.int .i64 0, .int .i64 0] 44)).mono hb.size)
    have HB1 := Lib.hid (HB.out.trans (hbx.mono HB.out.size))
    clear hn hb hbx
    go_wp2
    go_ret2
    exact .inl ⟨HN.out, rfl, HB1.out⟩
  · have HOK : Hid (addOk ss (i : Int) nm) := Lib.hid ⟨⟨hv, i, c, rfl, hci, hl5⟩, hnm⟩
    obtain ⟨l, hl⟩ : ∃ l, addP ss i ⟨kind, nm, -1⟩ = l := ⟨_, rfl⟩
    rw [hl] at hO
    have HL : Hid (addAt ss (i : Int) kind nm = l) := Lib.hid (by unfold addAt; rw [Int.toNat_natCast, hl])
    obtain ⟨ov, cv, rfl, -⟩ := hO.holds
    obtain ⟨z, hz⟩ : ∃ z : Int, (c.items.length : Int) = z := ⟨_, rfl⟩
    rw [hz]
    have hbN := ((Below.refl w1.heap.size w1).alloc (Nat.le_refl _) (.cells #[.slice ov l.length cv] 31)).alloc (by simp) (.cells #[.int .i64 (i : Int), .int .i64 z] 44)
    have hbx := hb.trans (hbN.mono hb.size)
    have HB1 := Lib.hid (HB.out.trans (hbx.mono HB.out.size))
    have RA := (Row.new w1 [.slice ov l.length cv] 31).alloc (.cells #[.int .i64 (i : Int), .int .i64 z] 44)
    have a0 := RA.cell (i := 0) (v := .slice ov l.length cv) (by rfl)
    have gx := (HR.out.below hbx HR.out.lt).cell (i := 0) (v := .slice oa ss.length cap) (by rfl)
    have C2 := Lib.hid (between_any ss l HOK.out.1.1 (by rw [← HL.out]; exact HOK.out.valid HK.out) HF.out (by rw [← HL.out]; exact HOK.out.fair HF.out HK.out) oa ov cap cv (.func (.func 43) #[] #[]) some (by rw [← HL.out]; exact stands_in_add) _ (HC.out.below HB1.out (Nat.le_refl _)) (hO.below hbN).holdsAt (HE.out.at HB1.out).names.nodes.trees (stands_stay _))
    clear hv hci hl5 hnm hz hO hbN hl hb hbx RA g1
    go_wp2_with fail
    refine C2.out.mono ?_
    rintro e w2 ⟨v5, rfl, hown, hb5⟩
    rw [chgG_add] at hown
    have HO := Lib.hid (And.intro (hown.mono HB1.out.size) (HB1.out.trans (hb5.mono HB1.out.size)))
    clear hown hb5
    go_wp2
    go_ret2
    exact .inr ⟨HOK.out, v5, rfl, by rw [HL.out]; exact HO.out.1, HO.out.2⟩
set_option maxRecDepth 100000 in
set_option maxHeartbeats 4000000 in
theorem implCapturedBy_any (ss : List Sc) (hF : Fair ss) (oa : Option Addr) (cap : Nat) (n : Int) (nm : ByteArray) (w : World) (hc : HoldsScopes w oa ss) (hE : AddErrs w) :
    Calls Tryd.prog 10 #[.agg #[.slice oa ss.length cap], .int .i64 n, .string nm] w (PlGot (addOk ss n nm) (chgA ss (addAt ss n 1 nm)) w) := by
  have hb0 : Below w.heap.size w (w.alloc (.cells #[.slice oa ss.length cap] 31)) := (Below.refl _ _).alloc (Nat.le_refl _) _
  have R1 := Row.new w [.slice oa ss.length cap] 31
  have C := Lib.hid (changedByAdding_any ss hF oa cap n 1 (by decide) nm _ (hc.below hb0 (Nat.le_refl _)) (hE.at hb0))
  have HB := Lib.hid hb0
  have g1 := R1.cell (i := 0) (by rfl)
  clear hF hc hE hb0 R1
  go_enter Tryd.func10, Tryd.ntmps10
  go_wp2_with fail
  refine C.out.mono ?_
  rintro e w1 (⟨hn, rfl, hb⟩ | ⟨hok, v, rfl, hown, hb⟩)
  · have HN := Lib.hid (And.intro hn (HB.out.trans (hb.mono HB.out.size)))
    clear hn hb
    go_wp2
    go_ret2
    exact .inl ⟨HN.out.1, rfl, HN.out.2⟩
  · have HN := Lib.hid (And.intro hok (And.intro (hown.mono HB.out.size) (HB.out.trans (hb.mono HB.out.size))))
    clear hok hown hb
    go_wp2
    go_ret2
    exact .inr ⟨HN.out.1, v, rfl, HN.out.2.1, HN.out.2.2⟩
set_option maxRecDepth 100000 in
set_option maxHeartbeats 4000000 in
theorem implImportChanges_any (ss : List Sc) (hF : Fair ss) (oa : Option Addr) (cap : Nat) (n : Int) (nm : ByteArray) (w : World) (hc : HoldsScopes w oa ss) (hE : AddErrs w) :
    Calls Tryd.prog 21 #[.agg #[.slice oa ss.length cap], .int .i64 n, .string nm] w (PlGot (addOk ss n nm) (chgA ss (addAt ss n 3 nm)) w) := by
  have hb0 : Below w.heap.size w (w.alloc (.cells #[.slice oa ss.length cap] 31)) := (Below.refl _ _).alloc (Nat.le_refl _) _
  have R1 := Row.new w [.slice oa ss.length cap] 31
  have C := Lib.hid (changedByAdding_any ss hF oa cap n 3 (by decide) nm _ (hc.below hb0 (Nat.le_refl _)) (hE.at hb0))
  have HB := Lib.hid hb0
  have g1 := R1.cell (i := 0) (by rfl)
  clear hF hc hE hb0 R1
  go_enter Tryd.func21, Tryd.ntmps21
  go_wp2_with fail
  refine C.out.mono ?_
  rintro e w1 (⟨hn, rfl, hb⟩ | ⟨hok, v, rfl, hown, hb⟩)
  · have HN := Lib.hid (And.intro hn (HB.out.trans (hb.mono HB.out.size)))
    clear hn hb
    go_wp2
    go_ret2
    exact .inl ⟨HN.out.1, rfl, HN.out.2⟩
  · have HN := Lib.hid (And.intro hok (And.intro (hown.mono HB.out.size) (HB.out.trans (hb.mono HB.out.size))))
    clear hok hown hb
    go_wp2
    go_ret2
    exact .inr ⟨HN.out.1, v, rfl, HN.out.2.1, HN.out.2.2⟩
set_option maxRecDepth 100000 in
set_option maxHeartbeats 4000000 in
theorem implCanAdd_any (ss : List Sc) (hF : Fair ss) (oa : Option Addr) (cap : Nat) (n : Int) (nm : ByteArray) (w : World) (hc : HoldsScopes w oa ss) (hE : AddErrs w) :
    Calls Tryd.prog 17 #[.agg #[.slice oa ss.length cap], .int .i64 n, .string nm] w fun e w' => ∃ b, e = .returned (.bool b) ∧ CanVal (addOk ss n nm) (chgA ss (addAt ss n 1 nm)) b ∧ Below w.heap.size w w' := by
  have hb0 : Below w.heap.size w (w.alloc (.cells #[.slice oa ss.length cap] 31)) := (Below.refl _ _).alloc (Nat.le_refl _) _
  have R1 := Row.new w [.slice oa ss.length cap] 31
  have C := Lib.hid (implCapturedBy_any ss hF oa cap n nm _ (hc.below hb0 (Nat.le_refl _)) (hE.at hb0))
  have HB := Lib.hid hb0
  have g1 := R1.cell (i := 0) (by rfl)
  clear hF hc hE hb0 R1
  go_enter Tryd.func17, Tryd.ntmps17
  go_wp2_with fail
  refine C.out.mono ?_
  rintro e w1 (⟨hn, rfl, hb⟩ | ⟨hok, v, rfl, hown, hb⟩)
  · have HN := Lib.hid (And.intro hn (HB.out.trans (hb.mono HB.out.size)))
    clear hn hb
    go_wp2
    go_ret
    exact ⟨false, rfl, .inl ⟨HN.out.1, rfl⟩, HN.out.2⟩
  · obtain ⟨ov, cv, rfl⟩ := ownsRow_slice hown
    obtain ⟨q, hq⟩ : ∃ q, ((((chgA ss (addAt ss n 1 nm)).length : Nat) : Int) == 0) = q := ⟨_, rfl⟩
    have HN := Lib.hid (And.intro hok (And.intro (hq.symm.trans (len_zero _)) (HB.out.trans (hb.mono HB.out.size))))
    clear hok hown hb
    cases q
    all_goals go_wp2
    all_goals go_ret
    all_goals exact ⟨_, rfl, .inr ⟨HN.out.1, HN.out.2.1⟩, HN.out.2.2⟩
end Go.Proofs.YthoccmhgjcafnaaDoor
