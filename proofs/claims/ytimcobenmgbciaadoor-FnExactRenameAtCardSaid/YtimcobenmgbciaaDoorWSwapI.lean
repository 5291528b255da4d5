/-
  The walk of impl's SwapNames. Conditions: the argument's memory holds the graph; the package-level errors hold errors.
-/
import Derived.Test.YtimcobenmgbciaaDoorWApply
import Derived.Test.YtimcobenmgbciaaDoorWRemItem
namespace Go.Proofs.YtimcobenmgbciaaDoor
open Go Go.RowKit
def swapOk (ss : List Sc) (a b : ByteArray) : Prop := Valid ss ∧ nameB a = true ∧ nameB b = true
/-- The edit that a renaming is. -/
theorem edit_ren {w : World} {u : Value} {f : NameF} {us : List Sc} (h : RenOk w u f) (hn : us.length ≤ 900) (hn2 : ∀ s ∈ us, s.items.length ≤ 900) : EditOk w (.func (.func 91) #[u] #[]) us (renP us f) :=
  ⟨_, #[u], #[], rfl, .inr ⟨u, rfl⟩, enters_of Tryd.func91 (by kernel_rfl) rfl, fun W B g gs cs hs hb hB hB2 hG => apply_any us hs hn hn2 B g gs cs W h hb hB hB2 hG⟩
/-- A copy of a graph to which one edit has been made. -/
theorem with_one (ss tt : List Sc) (hF : Fair ss) (h1 : 1 ≤ ss.length) (oa : Option Addr) (cap : Nat) (u : Value) (w : World) (hc : HoldsScopes w oa ss) (hE : EditOk w u ss tt) :
    Calls Tryd.prog 90 #[.agg #[.slice oa ss.length cap], .slice (some ⟨w.heap.size, 0, none⟩) 1 1] (w.alloc (.cells #[u] 185)) fun e w' => ∃ v hs, e = .returned (.agg #[v]) ∧ OwnGr w' w.heap.size v tt hs ∧ Below w.heap.size w w' := by
  have hb := (Below.refl w.heap.size w).alloc (Nat.le_refl _) (.cells #[u] 185)
  have RF := Row.new w [u] 185
  refine (with_any ss tt hF h1 oa (some ⟨w.heap.size, 0, none⟩) cap 1 [u] (by simp) _ (hc.below hb (Nat.le_refl _)) (.inr ⟨_, 0, rfl, RF.lt, fun k z hz => by rw [Nat.zero_add]; exact RF.cell hz⟩) (.cons ?_ (.nil _))).mono ?_
  · obtain ⟨f, pb, lb, h1, h2, h3, h4⟩ := hE
    exact ⟨f, pb, lb, h1, h2, h3, fun W B g gs cs hs hW hB hB2 hG => h4 W B g gs cs hs (hb.trans (hW.mono hb.size)) (Nat.le_trans hb.size hB) hB2 hG⟩
  · rintro e w' ⟨v, hs, rfl, hO, hb'⟩
    exact ⟨v, hs, rfl, hO.lower hb.size, hb.trans (hb'.mono hb.size)⟩
set_option maxRecDepth 100000 in
set_option maxHeartbeats 8000000 in
theorem implSwapNames_any (ss : List Sc) (hF : Fair ss) (oa : Option Addr) (cap : Nat) (na nb : ByteArray) (w : World) (hc : HoldsScopes w oa ss) (hE : TreeErrs w) :
    Calls Tryd.prog 48 #[.agg #[.slice oa ss.length cap], .string na, .string nb] w (GrGot (swapOk ss na nb) (renP ss (swapF na nb)) w) := by
  have hb0 := ((Below.refl w.heap.size w).alloc (Nat.le_refl _) (.cells #[.slice oa ss.length cap] 25)).alloc (by simp) (.cells #[.slice none 0 0] 25)
  have R1 := Lib.hid ((Row.new w [.slice oa ss.length cap] 25).alloc (.cells #[.slice none 0 0] 25))
  have R2 := Row.new (w.alloc (.cells #[.slice oa ss.length cap] 25)) [.slice none 0 0] 25
  rw [World.size_alloc] at R2
  have R2 := Lib.hid R2
  have C := Lib.hid (implValid_any ss hF oa cap _ (hc.below hb0 (Nat.le_refl _)) (hE.below hb0 hE.size))
  have HB := Lib.hid hb0
  have HF := Lib.hid hF
  have HC := Lib.hid hc
  have g1 := R1.out.cell (i := 0) (v := .slice oa ss.length cap) (by rfl)
  have n0 := R2.out.cell (i := 0) (v := .slice none 0 0) (by rfl)
  have f0 := R2.out.frozen 0
  clear hF hc hE hb0
  obtain ⟨qa, hqa⟩ : ∃ q, nameB na = q := ⟨_, rfl⟩
  obtain ⟨qb, hqb⟩ : ∃ q, nameB nb = q := ⟨_, rfl⟩
  have HQ := Lib.hid (And.intro hqa hqb)
  have CA := Lib.hid (fun W => isName_any na W)
  have CB := Lib.hid (fun W => isName_any nb W)
  rw [hqa] at CA
  rw [hqb] at CB
  clear hqa hqb
  go_enter Tryd.func48, Tryd.ntmps48
  go_wp2_with fail
  refine C.out.mono ?_
  rintro e w1 ⟨b, rfl, hv, hb1⟩
  have HV := Lib.hid hv
  have HB1 := Lib.hid (HB.out.trans (hb1.mono HB.out.size))
  have R1a := Lib.hid (R1.out.below hb1 R1.out.lt)
  have R2a := Lib.hid (R2.out.below hb1 R2.out.lt)
  have g1 := R1a.out.cell (i := 0) (v := .slice oa ss.length cap) (by rfl)
  have n0 := R2a.out.cell (i := 0) (v := .slice none 0 0) (by rfl)
  have f0 := R2a.out.frozen 0
  clear hv hb1
  cases b
  · have HN : Hid (¬ swapOk ss na nb) := Lib.hid (fun h => by have := HV.out.2 h.1; cases this)
    go_wp2
    have RT := R2a.out.set 0 (.slice none 0 0)
    have d0 := RT.cell (i := 0) (v := .slice none 0 0) (by rfl)
    refine bodyPost_ret (v := .tuple #[.agg #[.slice none 0 0], .bool false]) (by simp [results, Tryd.results48, go_sem, d0]) rfl (.inl ⟨HN.out, _, [], rfl, OwnGr.nil _ _, HB1.out.setCell (by simp) _⟩)
  · have HVV := Lib.hid (HV.out.1 rfl)
    go_wp2_with fail
    refine (CA.out _).mono ?_
    rintro e w2 ⟨rfl, rfl⟩
    cases qa
    · have HN : Hid (¬ swapOk ss na nb) := Lib.hid (fun h => by have := HQ.out.1.symm.trans h.2.1; cases this)
      go_wp2
      have RT := R2a.out.set 0 (.slice none 0 0)
      have d0 := RT.cell (i := 0) (v := .slice none 0 0) (by rfl)
      refine bodyPost_ret (v := .tuple #[.agg #[.slice none 0 0], .bool false]) (by simp [results, Tryd.results48, go_sem, d0]) rfl (.inl ⟨HN.out, _, [], rfl, OwnGr.nil _ _, HB1.out.setCell (by simp) _⟩)
    · go_wp2_with fail
      refine (CB.out _).mono ?_
      rintro e w2 ⟨rfl, rfl⟩
      cases qb
      · have HN : Hid (¬ swapOk ss na nb) := Lib.hid (fun h => by have := HQ.out.2.symm.trans h.2.2; cases this)
        go_wp2
        have RT := R2a.out.set 0 (.slice none 0 0)
        have d0 := RT.cell (i := 0) (v := .slice none 0 0) (by rfl)
        refine bodyPost_ret (v := .tuple #[.agg #[.slice none 0 0], .bool false]) (by simp [results, Tryd.results48, go_sem, d0]) rfl (.inl ⟨HN.out, _, [], rfl, OwnGr.nil _ _, HB1.out.setCell (by simp) _⟩)
      · have HOK : Hid (swapOk ss na nb) := Lib.hid ⟨HVV.out, HQ.out.1, HQ.out.2⟩
        go_wp2_with fail
        refine (replacing_any na ⟨#[]⟩ _).mono ?_
        rintro e w2 ⟨u1, rfl, hr1, hb2⟩
        have K1 := Lib.hid hr1
        have B2 := Lib.hid hb2
        clear hr1 hb2
        go_wp2_with fail
        refine (replacing_any nb na _).mono ?_
        rintro e w3 ⟨u2, rfl, hr2, hb3⟩
        have K1a := Lib.hid (K1.out.below hb3)
        have K2 := Lib.hid hr2
        have B3 := Lib.hid (B2.out.trans (hb3.mono B2.out.size))
        clear hr2 hb3
        go_wp2_with fail
        refine (then_any _ K1a.out K2.out).mono ?_
        rintro e w4 ⟨u3, rfl, hr3, hb4⟩
        have K3 := Lib.hid hr3
        have B4 := Lib.hid (B3.out.trans (hb4.mono B3.out.size))
        clear hr3 hb4
        go_wp2_with fail
        refine (replacing_any ⟨#[]⟩ nb _).mono ?_
        rintro e w5 ⟨u4, rfl, hr4, hb5⟩
        have K3a := Lib.hid (K3.out.below hb5)
        have K4 := Lib.hid hr4
        have B5 := Lib.hid (B4.out.trans (hb5.mono B4.out.size))
        clear hr4 hb5
        go_wp2_with fail
        refine (then_any _ K3a.out K4.out).mono ?_
        rintro e w6 ⟨u5, rfl, hr5, hb6⟩
        have K5 := Lib.hid hr5
        have B6 := Lib.hid (B5.out.trans (hb6.mono B5.out.size))
        have HB6 := Lib.hid (HB1.out.trans (B6.out.mono HB1.out.size))
        have R1b := Lib.hid (R1a.out.below B6.out R1a.out.lt)
        have R2b := Lib.hid (R2a.out.below B6.out R2a.out.lt)
        have g2 := R1b.out.cell (i := 0) (v := .slice oa ss.length cap) (by rfl)
        have E6 := Lib.hid (edit_ren (us := ss) K5.out (by have := HOK.out.1.count.2; omega) (fun s hs => by have := HOK.out.1.five s hs; omega))
        have W6 := Lib.hid (with_one ss _ HF.out HOK.out.1.count.1 oa cap _ w6 (HC.out.below HB6.out (Nat.le_refl _)) E6.out)
        rw [swap_three HOK.out.1 HOK.out.2.1 HOK.out.2.2] at W6
        clear hr5 hb6 g1 n0 f0
        go_wp2_with fail
        refine W6.out.mono ?_
        rintro e w7 ⟨v, hs, rfl, hO, hb7⟩
        obtain ⟨ov, cv, rfl, -⟩ := hO.holds
        have HB7 := Lib.hid (HB6.out.trans (hb7.mono HB6.out.size))
        have R2c := Lib.hid (R2b.out.below hb7 R2b.out.lt)
        have HO := Lib.hid (hO.lower HB6.out.size)
        have m0 := R2c.out.cell (i := 0) (v := .slice none 0 0) (by rfl)
        have l0 := R2c.out.frozen 0
        clear hO hb7 g2
        go_wp2
        have RT := R2c.out.set 0 (.slice ov (renP ss (swapF na nb)).length cv)
        have d0 := RT.cell (i := 0) (v := .slice ov (renP ss (swapF na nb)).length cv) (by rfl)
        refine bodyPost_ret (v := .tuple #[.agg #[.slice ov (renP ss (swapF na nb)).length cv], .bool true]) (by simp [results, Tryd.results48, go_sem, d0]) rfl (.inr ⟨HOK.out, _, hs, rfl, ?_, HB7.out.setCell (by simp) _⟩)
        exact ⟨HO.out.len, ownsRow_otherN HO.out.row R2c.out (by decide) 0 _, fun k t z h1 h2 => ownsRow_otherN (HO.out.items k t z h1 h2) R2c.out (by decide) 0 _, HO.out.apart⟩
end Go.Proofs.YtimcobenmgbciaaDoor
