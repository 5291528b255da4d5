/-
  The walks of the given CapturedBy, ImportChanges and CanAdd. Condition: the argument's memory holds the graph.
-/
import Derived.Test.YthoccmhgjcafnaaDoorWChgS
import Derived.Test.YthoccmhgjcafnaaDoorWCapI
import Derived.Test.YthoccmhgjcafnaaDoorWSpecMov2
namespace Go.Proofs.YthoccmhgjcafnaaDoor
open Go Go.RowKit
theorem sub_add {ss : List Sc} {n kind : Int} {nm : ByteArray} : ∀ q ∈ placed 0 ss, q ∈ placed 0 (addAt ss n kind nm) := by
  rintro ⟨i, j, x⟩ hq
  exact placed_add hq
set_option maxRecDepth 100000 in
set_option maxHeartbeats 4000000 in
theorem specCapturedBy_any (ss : List Sc) (hF : Fair ss) (oa : Option Addr) (cap : Nat) (n : Int) (nm : ByteArray) (w : World) (hc : HoldsScopes w oa ss) :
    Calls Tryd.prog 8 #[.agg #[.slice oa ss.length cap], .int .i64 n, .string nm] w (PlGot2 (addOk ss n nm) (chgA ss (addAt ss n 1 nm)) w) := by
  have hb0 : Below w.heap.size w (w.alloc (.cells #[.slice oa ss.length cap] 31)) := (Below.refl _ _).alloc (Nat.le_refl _) _
  have R1 := Row.new w [.slice oa ss.length cap] 31
  have C := Lib.hid (specAddDeclaration_any ss hF oa cap n nm _ (hc.below hb0 (Nat.le_refl _)))
  have HB := Lib.hid hb0
  have HR := Lib.hid R1
  have HF := Lib.hid hF
  have HC := Lib.hid hc
  have g1 := R1.cell (i := 0) (by rfl)
  clear hF hc hb0 R1
  go_enter Tryd.func8, Tryd.ntmps8
  go_wp2_with fail
  refine C.out.mono ?_
  rintro e w1 (⟨hn, v0, hs0, rfl, hO, hb⟩ | ⟨hok, v, hs, rfl, hO, hb⟩)
  · have HN := Lib.hid hn
    obtain ⟨ov0, cv0, rfl, -⟩ := hO.holds
    have hbx := hb.trans ((((Below.refl w1.heap.size w1).alloc (Nat.le_refl _) (.cells #[.slice ov0 ([] : List Sc).length cv0] 31)).alloc (by simp) (.cells #[.int .i64 0, .int .i64 0] 44)).mono hb.size)
    have HB1 := Lib.hid (HB.out.trans (hbx.mono HB.out.size))
    clear hn hb hbx hO
    go_wp2
    go_ret2
    exact .inl ⟨HN.out, _, rfl, by
      first | exact HB1.out | exact HB1.out.alloc HB1.out.size _⟩
  · have HOK := Lib.hid hok
    obtain ⟨ov, cv, rfl, -⟩ := hO.holds
    have hbN := (((Below.refl w1.heap.size w1).alloc (Nat.le_refl _) (.cells #[.slice ov (addAt ss n 1 nm).length cv] 31)).alloc (by simp) (.cells #[.int .i64 n, .int .i64 (endAt ss n)] 44))
    have hbx := hb.trans (hbN.mono hb.size)
    have HB1 := Lib.hid (HB.out.trans (hbx.mono HB.out.size))
    have RA := ((Row.new w1 [.slice ov (addAt ss n 1 nm).length cv] 31).alloc (.cells #[.int .i64 n, .int .i64 (endAt ss n)] 44))
    have a0 := RA.cell (i := 0) (v := .slice ov (addAt ss n 1 nm).length cv) (by rfl)
    have gx := (HR.out.below hbx HR.out.lt).cell (i := 0) (v := .slice oa ss.length cap) (by rfl)
    have C2 := Lib.hid (l7Changes_any ss (addAt ss n 1 nm) hok.1.1 (hok.valid (by decide)) HF.out.fits (hok.fair HF.out (by decide)).fits (fun i j x hq => ⟨x, sub_add _ hq⟩) oa ov cap cv _ (HC.out.below HB1.out (Nat.le_refl _)) (hO.below hbN).holdsAt)
    clear hok hO hbN hb hbx RA g1
    go_wp2_with fail
    refine C2.out.mono ?_
    rintro e w2 ⟨v5, rfl, hown, hb5⟩
    have HO := Lib.hid (And.intro (hown.mono HB1.out.size) (HB1.out.trans (hb5.mono HB1.out.size)))
    clear hown hb5
    go_wp2
    go_ret2
    exact .inr ⟨HOK.out, v5, rfl, HO.out.1, HO.out.2⟩
set_option maxRecDepth 100000 in
set_option maxHeartbeats 4000000 in
theorem specImportChanges_any (ss : List Sc) (hF : Fair ss) (oa : Option Addr) (cap : Nat) (n : Int) (nm : ByteArray) (w : World) (hc : HoldsScopes w oa ss) :
    Calls Tryd.prog 20 #[.agg #[.slice oa ss.length cap], .int .i64 n, .string nm] w (PlGot2 (addOk ss n nm) (chgA ss (addAt ss n 3 nm)) w) := by
  have hb0 : Below w.heap.size w (w.alloc (.cells #[.slice oa ss.length cap] 31)) := (Below.refl _ _).alloc (Nat.le_refl _) _
  have R1 := Row.new w [.slice oa ss.length cap] 31
  have C := Lib.hid (specAddImport_any ss hF oa cap n nm _ (hc.below hb0 (Nat.le_refl _)))
  have HB := Lib.hid hb0
  have HR := Lib.hid R1
  have HF := Lib.hid hF
  have HC := Lib.hid hc
  have g1 := R1.cell (i := 0) (by rfl)
  clear hF hc hb0 R1
  go_enter Tryd.func20, Tryd.ntmps20
  go_wp2_with fail
  refine C.out.mono ?_
  rintro e w1 (⟨hn, v0, hs0, rfl, hO, hb⟩ | ⟨hok, v, hs, rfl, hO, hb⟩)
  · have HN := Lib.hid hn
    obtain ⟨ov0, cv0, rfl, -⟩ := hO.holds
    have hbx := hb.trans (((Below.refl w1.heap.size w1).alloc (Nat.le_refl _) (.cells #[.slice ov0 ([] : List Sc).length cv0] 31)).mono hb.size)
    have HB1 := Lib.hid (HB.out.trans (hbx.mono HB.out.size))
    clear hn hb hbx hO
    go_wp2
    go_ret2
    exact .inl ⟨HN.out, _, rfl, by
      first | exact HB1.out | exact HB1.out.alloc HB1.out.size _⟩
  · have HOK := Lib.hid hok
    obtain ⟨ov, cv, rfl, -⟩ := hO.holds
    have hbN := ((Below.refl w1.heap.size w1).alloc (Nat.le_refl _) (.cells #[.slice ov (addAt ss n 3 nm).length cv] 31))
    have hbx := hb.trans (hbN.mono hb.size)
    have HB1 := Lib.hid (HB.out.trans (hbx.mono HB.out.size))
    have RA := (Row.new w1 [.slice ov (addAt ss n 3 nm).length cv] 31)
    have a0 := RA.cell (i := 0) (v := .slice ov (addAt ss n 3 nm).length cv) (by rfl)
    have gx := (HR.out.below hbx HR.out.lt).cell (i := 0) (v := .slice oa ss.length cap) (by rfl)
    have C2 := Lib.hid (l7Changes_any ss (addAt ss n 3 nm) hok.1.1 (hok.valid (by decide)) HF.out.fits (hok.fair HF.out (by decide)).fits (fun i j x hq => ⟨x, sub_add _ hq⟩) oa ov cap cv _ (HC.out.below HB1.out (Nat.le_refl _)) (hO.below hbN).holdsAt)
    clear hok hO hbN hb hbx RA g1
    go_wp2_with fail
    refine C2.out.mono ?_
    rintro e w2 ⟨v5, rfl, hown, hb5⟩
    have HO := Lib.hid (And.intro (hown.mono HB1.out.size) (HB1.out.trans (hb5.mono HB1.out.size)))
    clear hown hb5
    go_wp2
    go_ret2
    exact .inr ⟨HOK.out, v5, rfl, HO.out.1, HO.out.2⟩
set_option maxRecDepth 100000 in
set_option maxHeartbeats 4000000 in
theorem specCanAdd_any (ss : List Sc) (hF : Fair ss) (oa : Option Addr) (cap : Nat) (n : Int) (nm : ByteArray) (w : World) (hc : HoldsScopes w oa ss) :
    Calls Tryd.prog 16 #[.agg #[.slice oa ss.length cap], .int .i64 n, .string nm] w fun e w' => ∃ b, e = .returned (.bool b) ∧ CanVal (addOk ss n nm) (chgA ss (addAt ss n 1 nm)) b ∧ Below w.heap.size w w' := by
  have hb0 : Below w.heap.size w (w.alloc (.cells #[.slice oa ss.length cap] 31)) := (Below.refl _ _).alloc (Nat.le_refl _) _
  have R1 := Row.new w [.slice oa ss.length cap] 31
  have C := Lib.hid (specCapturedBy_any ss hF oa cap n nm _ (hc.below hb0 (Nat.le_refl _)))
  have HB := Lib.hid hb0
  have g1 := R1.cell (i := 0) (by rfl)
  clear hF hc hb0 R1
  go_enter Tryd.func16, Tryd.ntmps16
  go_wp2_with fail
  refine C.out.mono ?_
  rintro e w1 (⟨hn, g, rfl, hb⟩ | ⟨hok, v, rfl, hown, hb⟩)
  · have HN := Lib.hid (And.intro hn (HB.out.trans (hb.mono HB.out.size)))
    clear hn hb
    go_wp2
    go_ret
    exact ⟨false, rfl, .inl ⟨HN.out.1, rfl⟩, HN.out.2⟩
  · obtain ⟨ov, cv, rfl⟩ := ownsRow_slice hown
    obtain ⟨q, hq⟩ : ∃ q, ((((chgA ss (addAt ss n 1 nm)).length : Nat) : Int) == 0) = q := ⟨_, rfl⟩
    have HN := Lib.hid (And.intro hok (And.intro (hq.symm.trans (len_zero _)) (HB.out.trans (hb.mono HB.out.size))))
    clear hok hown hb
    cases q
    all_goals go_wp2
    all_goals go_ret
    all_goals exact ⟨_, rfl, .inr ⟨HN.out.1, HN.out.2.1⟩, HN.out.2.2⟩
end Go.Proofs.YthoccmhgjcafnaaDoor
