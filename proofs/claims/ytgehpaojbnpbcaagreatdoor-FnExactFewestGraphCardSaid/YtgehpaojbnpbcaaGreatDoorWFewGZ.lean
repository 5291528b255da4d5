/-
  The walks of FewestGraph and IsFewest of both sides. Conditions: the argument's memory holds the graph; the package-level errors hold errors.
-/
import Derived.Test.YtgehpaojbnpbcaaGreatDoorWFewIZ
import Derived.Test.YtgehpaojbnpbcaaGreatDoorJSZ
import Derived.Test.YtgehpaojbnpbcaaGreatDoorWFrsSZ
namespace Go.Proofs.YtgehpaojbnpbcaaGreatDoor
open Go Go.RowKit
def fewOkG (ss : List Sc) : Prop := (fewR ss).2 = true ∧ nmgOk ss (fewR ss).1
noncomputable def fewGr (ss : List Sc) : List Sc := nmgG ss (fewR ss).1
theorem fewR_size (ss : List Sc) : (fewR ss).1.size ≤ 30 := by
  unfold fewR
  split
  · rename_i h
    unfold fewA
    split
    · rename_i l hl
      have h1 := few_length hl
      have h2 := h.2
      rw [txtN_size]
      omega
    · exact Nat.zero_le _
  · exact Nat.zero_le _
theorem fewOkG.valid {ss : List Sc} (h : fewOkG ss) : Valid (fewGr ss) := h.2.valid
theorem fewOkG.fair {ss : List Sc} (hF : Fair ss) (h : fewOkG ss) : Fair (fewGr ss) := h.2.fair hF
theorem fewOkG.small {ss : List Sc} (h : fewOkG ss) : SmallGr (fewGr ss) := ⟨by have := h.valid.count; omega, fun s hs => by have := h.valid.five s hs; omega⟩
set_option maxRecDepth 100000 in
set_option maxHeartbeats 8000000 in
theorem implFewG_any (ss : List Sc) (hF : Fair ss) (oa : Option Addr) (cap : Nat) (w : World) (hc : HoldsScopes w oa ss) (hE : FewErrs w) :
    Calls Tryz.prog 9 #[.agg #[.slice oa ss.length cap]] w (GrGot (fewOkG ss) (fewGr ss) w) := by
  have hb0 := ((Below.refl w.heap.size w).alloc (Nat.le_refl _) (.cells #[.slice oa ss.length cap] 28)).alloc (by simp) (.cells #[.slice none 0 0] 28)
  have R1 := Lib.hid ((Row.new w [.slice oa ss.length cap] 28).alloc (.cells #[.slice none 0 0] 28))
  have R2 := Row.new (w.alloc (.cells #[.slice oa ss.length cap] 28)) [.slice none 0 0] 28
  rw [World.size_alloc] at R2
  have R2 := Lib.hid R2
  obtain ⟨T, ok, hT⟩ : ∃ T ok, fewR ss = (T, ok) := ⟨_, _, rfl⟩
  have hTs : T.size ≤ 30 := by have := fewR_size ss; rw [hT] at this; exact this
  have C := implFewest_any ss hF oa cap _ (hc.below hb0 (Nat.le_refl _)) (hE.at hb0)
  rw [hT] at C
  have C := Lib.hid C
  have C2 := Lib.hid (fun W (hW : Below w.heap.size w W) => implNamed_any ss hF oa cap T (by omega) W (hc.below hW (Nat.le_refl _)) (hE.at hW).nmg)
  have HOK : Hid ((fewOkG ss ↔ ok = true ∧ nmgOk ss T) ∧ fewGr ss = nmgG ss T) := Lib.hid ⟨by unfold fewOkG; rw [hT], by unfold fewGr; rw [hT]⟩
  have HB := Lib.hid hb0
  have g1 := R1.out.cell (i := 0) (v := .slice oa ss.length cap) (by rfl)
  clear hb0 hF hc hT hTs hE
  go_enter Tryz.func9, Tryz.ntmps9
  go_wp2_with fail
  refine C.out.mono ?_
  rintro e w1 ⟨rfl, hb1⟩
  have HB1 := Lib.hid (HB.out.trans (hb1.mono HB.out.size))
  have R1a := Lib.hid (R1.out.below hb1 R1.out.lt)
  have R2a := Lib.hid (R2.out.below hb1 R2.out.lt)
  clear hb1 g1
  cases ok
  · have HN : Hid (¬ fewOkG ss) := Lib.hid (fun h => by have := (HOK.out.1.1 h).1; cases this)
    have n0 := R2a.out.cell (i := 0) (v := .slice none 0 0) (by rfl)
    have f0 := R2a.out.frozen 0
    go_wp2
    have RT := R2a.out.set 0 (.slice none 0 0)
    have d0 := RT.cell (i := 0) (v := .slice none 0 0) (by rfl)
    exact bodyPost_ret (v := .tuple #[.agg #[.slice none 0 0], .bool false]) (by simp [results, Tryz.results9, go_sem, d0]) rfl (.inl ⟨HN.out, _, [], rfl, OwnGr.nil _ _, HB1.out.setCell (by simp) _⟩)
  · have g1 := R1a.out.cell (i := 0) (v := .slice oa ss.length cap) (by rfl)
    have C7 := Lib.hid (C2.out _ HB1.out)
    go_wp2_with fail
    refine C7.out.mono ?_
    intro e w6 hgot
    obtain ⟨ov, cv, xs, hs, b, rfl, hgv, hh, hO, hb6⟩ := hgot.val
    have HB6 := Lib.hid (HB1.out.trans (hb6.mono HB1.out.size))
    have R2d := Lib.hid (R2a.out.below hb6 R2a.out.lt)
    have HO := Lib.hid (hO.lower HB1.out.size)
    have HGV := Lib.hid hgv
    have n0 := R2d.out.cell (i := 0) (v := .slice none 0 0) (by rfl)
    have f0 := R2d.out.frozen 0
    clear hgot hgv hh hO hb6 g1
    go_wp2
    have RT := R2d.out.set 0 (.slice ov xs.length cv)
    have d0 := RT.cell (i := 0) (v := .slice ov xs.length cv) (by rfl)
    have HOT : OwnGr (w6.setCell ⟨w.heap.size + 1, 0, none⟩ (.slice ov xs.length cv)) w.heap.size (.slice ov xs.length cv) xs hs := ⟨HO.out.len, ownsRow_otherN HO.out.row R2d.out (by decide) 0 _, fun k t z h1 h2 => ownsRow_otherN (HO.out.items k t z h1 h2) R2d.out (by decide) 0 _, HO.out.apart⟩
    refine bodyPost_ret (v := .tuple #[.agg #[.slice ov xs.length cv], .bool b]) (by simp [results, Tryz.results9, go_sem, d0]) rfl ?_
    rcases HGV.out with ⟨h1, rfl, rfl⟩ | ⟨h1, rfl, rfl⟩
    · exact .inl ⟨fun h => h1 (HOK.out.1.1 h).2, _, hs, rfl, HOT, HB6.out.setCell (by simp) _⟩
    · rw [← HOK.out.2] at HOT ⊢
      exact .inr ⟨HOK.out.1.2 ⟨by simp, h1⟩, _, hs, rfl, HOT, HB6.out.setCell (by simp) _⟩
set_option maxRecDepth 100000 in
set_option maxHeartbeats 8000000 in
theorem rawFewG_any (ss : List Sc) (hF : Fair ss) (oa : Option Addr) (cap : Nat) (w : World) (hc : HoldsScopes w oa ss) :
    Calls Tryz.prog 21 #[.agg #[.slice oa ss.length cap]] w (RawGv (fewOkG ss) (fewGr ss) w) := by
  have hb0 := ((Below.refl w.heap.size w).alloc (Nat.le_refl _) (.cells #[.slice oa ss.length cap] 28)).alloc (by simp) (.cells #[.slice none 0 0] 28)
  have R1 := Lib.hid ((Row.new w [.slice oa ss.length cap] 28).alloc (.cells #[.slice none 0 0] 28))
  have R2 := Row.new (w.alloc (.cells #[.slice oa ss.length cap] 28)) [.slice none 0 0] 28
  rw [World.size_alloc] at R2
  have R2 := Lib.hid R2
  obtain ⟨T, ok, hT⟩ : ∃ T ok, fewR ss = (T, ok) := ⟨_, _, rfl⟩
  have hTs : T.size ≤ 30 := by have := fewR_size ss; rw [hT] at this; exact this
  have C := specFewest_any ss hF oa cap _ (hc.below hb0 (Nat.le_refl _))
  rw [hT] at C
  have C := Lib.hid C
  have C2 := Lib.hid (fun W (hW : Below w.heap.size w W) => specNamed_any ss hF oa cap T (by omega) W (hc.below hW (Nat.le_refl _)))
  have HOK : Hid ((fewOkG ss ↔ ok = true ∧ nmgOk ss T) ∧ fewGr ss = nmgG ss T) := Lib.hid ⟨by unfold fewOkG; rw [hT], by unfold fewGr; rw [hT]⟩
  have HB := Lib.hid hb0
  have g1 := R1.out.cell (i := 0) (v := .slice oa ss.length cap) (by rfl)
  clear hb0 hF hc hT hTs
  go_enter Tryz.func21, Tryz.ntmps21
  go_wp2_with fail
  refine C.out.mono ?_
  rintro e w1 ⟨rfl, hb1⟩
  have HB1 := Lib.hid (HB.out.trans (hb1.mono HB.out.size))
  have R1a := Lib.hid (R1.out.below hb1 R1.out.lt)
  have R2a := Lib.hid (R2.out.below hb1 R2.out.lt)
  clear hb1 g1
  cases ok
  · have HN : Hid (¬ fewOkG ss) := Lib.hid (fun h => by have := (HOK.out.1.1 h).1; cases this)
    have n0 := R2a.out.cell (i := 0) (v := .slice none 0 0) (by rfl)
    have f0 := R2a.out.frozen 0
    go_wp2
    have RT := R2a.out.set 0 (.slice none 0 0)
    have d0 := RT.cell (i := 0) (v := .slice none 0 0) (by rfl)
    exact bodyPost_ret (v := .tuple #[.agg #[.slice none 0 0], .bool false]) (by simp [results, Tryz.results21, go_sem, d0]) rfl ⟨none, 0, [], false, rfl, .inl ⟨HN.out, rfl, rfl⟩, .inl rfl, HB1.out.setCell (by simp) _⟩
  · have g1 := R1a.out.cell (i := 0) (v := .slice oa ss.length cap) (by rfl)
    have C7 := Lib.hid (C2.out _ HB1.out)
    go_wp2_with fail
    refine C7.out.mono ?_
    intro e w6 hgot
    obtain ⟨ov, cv, xs, hs, b, rfl, hgv, hh, hO, hb6⟩ := hgot.val
    have HB6 := Lib.hid (HB1.out.trans (hb6.mono HB1.out.size))
    have R2d := Lib.hid (R2a.out.below hb6 R2a.out.lt)
    have HO := Lib.hid (hO.lower HB1.out.size)
    have HGV := Lib.hid hgv
    have n0 := R2d.out.cell (i := 0) (v := .slice none 0 0) (by rfl)
    have f0 := R2d.out.frozen 0
    clear hgot hgv hh hO hb6 g1
    go_wp2
    have RT := R2d.out.set 0 (.slice ov xs.length cv)
    have d0 := RT.cell (i := 0) (v := .slice ov xs.length cv) (by rfl)
    have HOT : OwnGr (w6.setCell ⟨w.heap.size + 1, 0, none⟩ (.slice ov xs.length cv)) w.heap.size (.slice ov xs.length cv) xs hs := ⟨HO.out.len, ownsRow_otherN HO.out.row R2d.out (by decide) 0 _, fun k t z h1 h2 => ownsRow_otherN (HO.out.items k t z h1 h2) R2d.out (by decide) 0 _, HO.out.apart⟩
    refine bodyPost_ret (v := .tuple #[.agg #[.slice ov xs.length cv], .bool b]) (by simp [results, Tryz.results21, go_sem, d0]) rfl ?_
    refine ⟨ov, cv, xs, b, rfl, ?_, OwnGr.holdsAtR HOT, HB6.out.setCell (by simp) _⟩
    rcases HGV.out with ⟨h1, h2, h3⟩ | ⟨h1, h2, h3⟩
    · exact .inl ⟨fun h => h1 (HOK.out.1.1 h).2, h2, h3⟩
    · exact .inr ⟨HOK.out.1.2 ⟨by simp, h1⟩, by rw [h2, HOK.out.2], h3⟩
set_option maxRecDepth 100000 in
set_option maxHeartbeats 8000000 in
theorem specFewG_any (ss : List Sc) (hF : Fair ss) (oa : Option Addr) (cap : Nat) (w : World) (hc : HoldsScopes w oa ss) :
    Calls Tryz.prog 7 #[.agg #[.slice oa ss.length cap]] w (GrGot (fewOkG ss) (fewGr ss) w) := by
  have hb0 := ((Below.refl w.heap.size w).alloc (Nat.le_refl _) (.cells #[.slice oa ss.length cap] 28)).alloc (by simp) (.cells #[.slice none 0 0] 28)
  have R1 := (Row.new w [.slice oa ss.length cap] 28).alloc (.cells #[.slice none 0 0] 28)
  have R3 := Row.new (w.alloc (.cells #[.slice oa ss.length cap] 28)) [.slice none 0 0] 28
  rw [World.size_alloc] at R3
  have C := Lib.hid (rawFewG_any ss hF oa cap _ (hc.below hb0 (Nat.le_refl _)))
  have HB := Lib.hid hb0
  have HR3 := Lib.hid R3
  have HF := Lib.hid hF
  have g1 := R1.cell (i := 0) (v := .slice oa ss.length cap) (by rfl)
  clear hF hc hb0 R1 R3
  go_enter Tryz.func7, Tryz.ntmps7
  go_wp2_with fail
  refine C.out.mono ?_
  rintro e w1 ⟨ov, cv, xs, bq, rfl, hgv, hho, hb1⟩
  rcases hgv with ⟨hn, rfl, rfl⟩ | ⟨hh, rfl, rfl⟩
  · have hbx := hb1.trans ((Below.refl w1.heap.size w1).alloc (Nat.le_refl _) (.cells #[.slice ov ([] : List Sc).length cv] 28) |>.mono hb1.size)
    have HB1 := Lib.hid (HB.out.trans (hbx.mono HB.out.size))
    have HR3a := Lib.hid (HR3.out.below hbx HR3.out.lt)
    have RX := (Row.new w1 [.slice ov ([] : List Sc).length cv] 28).cell (i := 0) (by rfl)
    have HN := Lib.hid hn
    have C2 := Lib.hid (ownGraph_any [] ov cv (by simp) (fun s hs => by cases hs) (w1.alloc (.cells #[.slice ov ([] : List Sc).length cv] 28)) (.inl rfl))
    clear hb1 hbx hn g1
    go_wp2_with fail
    refine C2.out.mono ?_
    rintro e w2 ⟨v, hs, rfl, hO, hb2⟩
    obtain ⟨ov2, cv2, rfl, -⟩ := hO.holds
    have HO := Lib.hid (hO.lower HB1.out.size)
    have HB2 := Lib.hid (HB1.out.trans (hb2.mono HB1.out.size))
    have HR3b := Lib.hid (HR3a.out.below hb2 HR3a.out.lt)
    have m0 := HR3b.out.cell (i := 0) (v := .slice none 0 0) (by rfl)
    have l0 := HR3b.out.frozen 0
    clear hO hb2 RX
    go_wp2
    have RT := HR3b.out.set 0 (.slice ov2 ([] : List Sc).length cv2)
    have d0 := RT.cell (i := 0) (v := .slice ov2 ([] : List Sc).length cv2) (by rfl)
    refine bodyPost_ret (v := .tuple #[.agg #[.slice ov2 ([] : List Sc).length cv2], .bool false]) (by simp [results, Tryz.results7, go_sem] at d0 ⊢; simp [d0]) rfl (.inl ⟨HN.out, _, hs, rfl, ?_, HB2.out.setCell (by simp) _⟩)
    exact ⟨HO.out.len, ownsRow_otherN HO.out.row HR3b.out (by decide) 0 _, fun k t z h1 h2 => ownsRow_otherN (HO.out.items k t z h1 h2) HR3b.out (by decide) 0 _, HO.out.apart⟩
  · obtain ⟨tt, htt⟩ : ∃ tt, fewGr ss = tt := ⟨_, rfl⟩
    have hlt : tt.length ≤ 1048576 := by rw [← htt]; exact (fewOkG.fair HF.out hh).count
    have hle : ∀ s ∈ tt, s.items.length < 1048576 := by
      rw [← htt]
      exact fun s hs => by have := hh.valid.five s hs; omega
    rw [htt] at hho ⊢
    have hbx := hb1.trans ((Below.refl w1.heap.size w1).alloc (Nat.le_refl _) (.cells #[.slice ov tt.length cv] 28) |>.mono hb1.size)
    have HB1 := Lib.hid (HB.out.trans (hbx.mono HB.out.size))
    have HR3a := Lib.hid (HR3.out.below hbx HR3.out.lt)
    have RX := (Row.new w1 [.slice ov tt.length cv] 28).cell (i := 0) (by rfl)
    have HH := Lib.hid hh
    have C2 := Lib.hid (ownGraph_any tt ov cv hlt hle (w1.alloc (.cells #[.slice ov tt.length cv] 28)) (hho.below ((Below.refl _ _).alloc (Nat.le_refl _) _) (Nat.le_refl _)))
    have HTT := Lib.hid htt
    clear hb1 hbx hh hho hle g1 htt hlt
    go_wp2_with fail
    refine C2.out.mono ?_
    rintro e w2 ⟨v, hs, rfl, hO, hb2⟩
    obtain ⟨ov2, cv2, rfl, -⟩ := hO.holds
    have HO := Lib.hid (hO.lower HB1.out.size)
    have HB2 := Lib.hid (HB1.out.trans (hb2.mono HB1.out.size))
    have HR3b := Lib.hid (HR3a.out.below hb2 HR3a.out.lt)
    have m0 := HR3b.out.cell (i := 0) (v := .slice none 0 0) (by rfl)
    have l0 := HR3b.out.frozen 0
    clear hO hb2 RX
    go_wp2
    have RT := HR3b.out.set 0 (.slice ov2 tt.length cv2)
    have d0 := RT.cell (i := 0) (v := .slice ov2 tt.length cv2) (by rfl)
    refine bodyPost_ret (v := .tuple #[.agg #[.slice ov2 tt.length cv2], .bool true]) (by simp [results, Tryz.results7, go_sem, d0]) rfl (.inr ⟨HH.out, _, hs, rfl, ?_, HB2.out.setCell (by simp) _⟩)
    rw [HTT.out]
    exact ⟨HO.out.len, ownsRow_otherN HO.out.row HR3b.out (by decide) 0 _, fun k t z h1 h2 => ownsRow_otherN (HO.out.items k t z h1 h2) HR3b.out (by decide) 0 _, HO.out.apart⟩
end Go.Proofs.YtgehpaojbnpbcaaGreatDoor
