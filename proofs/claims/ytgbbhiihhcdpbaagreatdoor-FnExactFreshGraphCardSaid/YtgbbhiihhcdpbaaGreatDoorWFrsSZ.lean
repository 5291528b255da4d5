/-
  The walks of the given l9RawFreshGraph and FreshGraph. Condition: the argument's memory holds the graph. (genfrs.py writes this text.)
-/
import Derived.Test.YtgbbhiihhcdpbaaGreatDoorJGZ
import Derived.Test.YtgbbhiihhcdpbaaGreatDoorJQZ
namespace Go.Proofs.YtgbbhiihhcdpbaaGreatDoor
open Go Go.RowKit
/-- A graph has fresh names where no item means several declarations, and these are at most 25. -/
def frsOk (ss : List Sc) : Prop := (Valid ss ∧ Clear ss) ∧ (dclP ss).length ≤ 25
def frsG (ss : List Sc) : List Sc := nmgG ss (bT (frsL (dclP ss).length))
theorem frsOk.nmg {ss : List Sc} (h : frsOk ss) : nmgOk ss (bT (frsL (dclP ss).length)) := ⟨h.1, frs_naming (bT_data _) h.2⟩
theorem frsOk.valid {ss : List Sc} (h : frsOk ss) : Valid (frsG ss) := h.nmg.valid
theorem frsOk.small {ss : List Sc} (h : frsOk ss) : SmallGr (frsG ss) := ⟨by have := h.valid.count; omega, fun s hs => by have := h.valid.five s hs; omega⟩
theorem frsOk.fair {ss : List Sc} (hF : Fair ss) (h : frsOk ss) : Fair (frsG ss) := h.nmg.fair hF
theorem frs_cut {n : Nat} (hn : n ≤ 25) : lettersB.extract 0 n = bT (frsL n) := by
  have h : ∀ m : Nat, m < 26 → lettersB.extract 0 m = bT (frsL m) := fun m hm => below26 (p := fun k => lettersB.extract 0 k = bT (frsL k)) (by decide +kernel) hm
  exact h n (by omega)
/-- What the raw given function answers: the graph lies in memory. -/
def RawGv (ok : Prop) (l : List Sc) (w : World) (e : Ending) (w' : World) : Prop := ∃ (ov : Option Addr) (cv : Nat) (xs : List Sc) (b : Bool), e = .returned (.tuple #[.agg #[.slice ov xs.length cv], .bool b]) ∧ grVal ok l xs b ∧ HoldsScopes w' ov xs ∧ Below w.heap.size w w'
set_option maxRecDepth 100000 in
set_option maxHeartbeats 8000000 in
theorem rawFresh_any (ss : List Sc) (hF : Fair ss) (hpw : (placed 0 ss).length ≤ 1048576) (oa : Option Addr) (cap : Nat) (w : World) (hc : HoldsScopes w oa ss) :
    Calls Tryz.prog 51 #[.agg #[.slice oa ss.length cap]] w (RawGv (frsOk ss) (frsG ss) w) := by
  have hb0 := ((Below.refl w.heap.size w).alloc (Nat.le_refl _) (.cells #[.slice oa ss.length cap] 25)).alloc (by simp) (.cells #[.slice none 0 0] 25)
  have R1 := Lib.hid ((Row.new w [.slice oa ss.length cap] 25).alloc (.cells #[.slice none 0 0] 25))
  have R2 := Row.new (w.alloc (.cells #[.slice oa ss.length cap] 25)) [.slice none 0 0] 25
  rw [World.size_alloc] at R2
  have R2 := Lib.hid R2
  have HB := Lib.hid hb0
  have HC := Lib.hid hc
  have HF := Lib.hid hF
  have C := Lib.hid (l1PlacesW_any ss hF.count (fun s hs => hF.items s hs) hpw oa cap 1 _ (hc.below hb0 (Nat.le_refl _)))
  have g1 := R1.out.cell (i := 0) (v := .slice oa ss.length cap) (by rfl)
  have hpl := Nat.le_trans (plsOf_length 1 (placed 0 ss)) hpw
  clear hb0 hF hc hpw
  go_enter Tryz.func51, Tryz.ntmps51
  go_wp2_with fail
  refine C.out.mono ?_
  rintro e w1 ⟨vD, rfl, hD, hb1⟩
  obtain ⟨oD, cD, rfl, -⟩ := argPlaces_of_owns hD
  have HB1 := Lib.hid (HB.out.trans (hb1.mono HB.out.size))
  have R1a := Lib.hid (R1.out.below hb1 R1.out.lt)
  have R2a := Lib.hid (R2.out.below hb1 R2.out.lt)
  have n0 := R2a.out.cell (i := 0) (v := .slice none 0 0) (by rfl)
  have f0 := R2a.out.frozen 0
  have hpl2 : (plsP ss 1).length ≤ 1048576 := hpl
  clear hD hb1 g1 hpl
  by_cases hn : 25 < (plsP ss 1).length
  · have e1 : decide (((plsP ss 1).length : Int) > 25) = true := by simp; omega
    have HN : Hid (¬ frsOk ss) := Lib.hid (fun h => by have := h.2; unfold dclP at this; omega)
    go_wp2
    have RT := R2a.out.set 0 (.slice none 0 0)
    have d0 := RT.cell (i := 0) (v := .slice none 0 0) (by rfl)
    exact bodyPost_ret (v := .tuple #[.agg #[.slice none 0 0], .bool false]) (by simp [results, Tryz.results51, go_sem, d0]) rfl ⟨none, 0, [], false, rfl, .inl ⟨HN.out, rfl, rfl⟩, .inl rfl, HB1.out.setCell (by simp) _⟩
  · have e1 : decide (((plsP ss 1).length : Int) > 25) = false := by simp; omega
    have hn25 : (plsP ss 1).length ≤ 25 := by omega
    obtain ⟨n, hne⟩ : ∃ n, (plsP ss 1).length = n := ⟨_, rfl⟩
    have HNE : Hid ((dclP ss).length = n) := Lib.hid hne
    rw [hne] at e1 hn25 ⊢
    have hcut : (⟨#[97, 98, 99, 100, 101, 102, 103, 104, 105, 106, 107, 108, 109, 110, 111, 112, 113, 114, 115, 116, 117, 118, 119, 120, 121, 122]⟩ : ByteArray).extract 0 n = bT (frsL n) := frs_cut hn25
    have HCUT := Lib.hid hcut
    have C9 := Lib.hid (fun W (hW : Below w.heap.size w W) => specNamed_any ss HF.out oa cap (bT (frsL n)) (by rw [bT_size, frsL_length]; omega) W (HC.out.below hW (Nat.le_refl _)))
    have g1 := R1a.out.cell (i := 0) (v := .slice oa ss.length cap) (by rfl)
    have HD0 : Hid (Below w1.heap.size w1 w1.drew) := Lib.hid ((Below.refl _ _).drew)
    have hli0 : (0 : Int) ≤ (n : Int) := by omega
    have hli1 : (n : Int) ≤ 26 := by omega
    clear hne hn n0 f0 hpl2
    go_wp2
    refine wp_region_kept (S := fun w' => w'.cell? ⟨w.heap.size, 0, none⟩ = some (.slice oa ss.length cap)) 7 (by kernel_rfl) ?_
    have hS0 : w1.drew.cell? ⟨w.heap.size, 0, none⟩ = some (.slice oa ss.length cap) := cell_drew g1
    have HS0 := Lib.hid hS0
    refine KeptAny.take (i := 0) (v := ?_) (by kernel_rfl) rfl rfl (by kernel_rfl) (by kernel_rfl) (by kernel_rfl) (fun _ _ _ h => h) (by rfl) (fun w' hw' => ?_) (fun _ => rfl) hS0 ?_
    rotate_left
    · (have g0 := hw'; go_simp; try with_reducible rfl)
    refine KeptAny.take (i := 1) (v := ?_) (by kernel_rfl) rfl rfl (by kernel_rfl) (by kernel_rfl) (by kernel_rfl) (fun _ _ _ h => h) (by rfl) (fun w' hw' => ?_) (fun _ => rfl) hS0 ?_
    rotate_left
    · (have g0 := hw'; go_simp; try with_reducible rfl)
    refine KeptAny.take (i := 2) (v := ?_) (by kernel_rfl) rfl rfl (by kernel_rfl) (by kernel_rfl) (by kernel_rfl) (fun _ _ _ h => h) (by rfl) (fun w' hw' => ?_) (fun _ => rfl) hS0 ?_
    rotate_left
    · (have g0 := hw'; go_simp; try with_reducible rfl)
    clear hS0 g1
    refine KeptAny.one (i := 3) (by kernel_rfl) rfl (by rfl) (fun K hK => ?_)
    go_simp
    refine ⟨trivial, ?_⟩
    refine ((callsIn_wide (n := 5)).2 (C9.out _ (HB1.out.trans (HD0.out.mono HB1.out.size)))).mono ?_
    intro e w2 hgot
    obtain ⟨ov, cv, xs, hsX, b, rfl, hv, hh, hO, hb2⟩ := hgot.val
    have HX2 := Lib.hid (HD0.out.trans (hb2.mono HD0.out.size))
    have HB2 := Lib.hid (HB1.out.trans (HX2.out.mono HB1.out.size))
    have R2b := Lib.hid (R2a.out.below HX2.out R2a.out.lt)
    have HV := Lib.hid hv
    have HH := Lib.hid hO
    have hS1 := cell_grow hb2 HS0.out
    have HS1 := Lib.hid hS1
    have n0 := R2b.out.cell (i := 0) (v := .slice none 0 0) (by rfl)
    have f0 := R2b.out.frozen 0
    refine hK.out _ _ hS1 (fun _ => ?_)
    clear hK hv hh hO hb2 hS1 hgot
    have hS0 := HS1.out
    refine KeptAny.take (i := 4) (v := ?_) (by kernel_rfl) rfl rfl (by kernel_rfl) (by kernel_rfl) (by kernel_rfl) (fun _ _ _ h => h) (by rfl) (fun w' hw' => ?_) (fun _ => rfl) hS0 ?_
    rotate_left
    · (have g0 := hw'; go_simp; try with_reducible rfl)
    refine KeptAny.take (i := 5) (v := ?_) (by kernel_rfl) rfl rfl (by kernel_rfl) (by kernel_rfl) (by kernel_rfl) (fun _ _ _ h => h) (by rfl) (fun w' hw' => ?_) (fun _ => rfl) hS0 ?_
    rotate_left
    · (have g0 := hw'; go_simp; try with_reducible rfl)
    clear hS0
    refine KeptAny.one (i := 6) (by kernel_rfl) rfl (by rfl) (fun K hK => ?_)
    go_simp
    refine hK.out _ _ ((cell_farR (by omega) 0 _ (o := 0)).trans HS1.out) (fun _ => ?_)
    clear hK
    refine KeptAny.last (by kernel_rfl) rfl (by rfl) (fun K hK => ?_)
    go_simp
    refine hK.out _ _ ?_
    clear hK
    refine KeptAny.done (by kernel_rfl) ?_ _
    have RT := R2b.out.set 0 (.slice ov xs.length cv)
    have d0 := RT.cell (i := 0) (v := .slice ov xs.length cv) (by rfl)
    have HOT := OwnGr.holdsAtR (show OwnGr (w2.setCell ⟨w.heap.size + 1, 0, none⟩ (.slice ov xs.length cv)) _ (.slice ov xs.length cv) xs hsX from ⟨HH.out.len, ownsRow_otherN HH.out.row R2b.out (by decide) 0 _, fun k t z h1 h2 => ownsRow_otherN (HH.out.items k t z h1 h2) R2b.out (by decide) 0 _, HH.out.apart⟩)
    go_wp2
    refine bodyPost_ret (v := .tuple #[.agg #[.slice ov xs.length cv], .bool b]) (by simp [results, Tryz.results51, go_sem, d0]) rfl ?_
    refine ⟨ov, cv, xs, b, rfl, ?_, HOT, HB2.out.setCell (by simp) _⟩
    have hnm : nmgOk ss (bT (frsL n)) ↔ frsOk ss := ⟨fun h => ⟨h.1, by rw [HNE.out]; exact hn25⟩, fun h => by have h1 := h.nmg; rw [HNE.out] at h1; exact h1⟩
    rcases HV.out with ⟨h1, h2, h3⟩ | ⟨h1, h2, h3⟩
    · exact .inl ⟨fun h => h1 (hnm.2 h), h2, h3⟩
    · exact .inr ⟨hnm.1 h1, by rw [h2]; unfold frsG; rw [HNE.out], h3⟩
set_option maxRecDepth 100000 in
set_option maxHeartbeats 8000000 in
theorem specFresh_any (ss : List Sc) (hF : Fair ss) (hpw : (placed 0 ss).length ≤ 1048576) (oa : Option Addr) (cap : Nat) (w : World) (hc : HoldsScopes w oa ss) :
    Calls Tryz.prog 12 #[.agg #[.slice oa ss.length cap]] w (GrGot (frsOk ss) (frsG ss) w) := by
  have hb0 := ((Below.refl w.heap.size w).alloc (Nat.le_refl _) (.cells #[.slice oa ss.length cap] 25)).alloc (by simp) (.cells #[.slice none 0 0] 25)
  have R1 := (Row.new w [.slice oa ss.length cap] 25).alloc (.cells #[.slice none 0 0] 25)
  have R3 := Row.new (w.alloc (.cells #[.slice oa ss.length cap] 25)) [.slice none 0 0] 25
  rw [World.size_alloc] at R3
  have C := Lib.hid (rawFresh_any ss hF hpw oa cap _ (hc.below hb0 (Nat.le_refl _)))
  have HB := Lib.hid hb0
  have HR3 := Lib.hid R3
  have HF := Lib.hid hF
  have g1 := R1.cell (i := 0) (v := .slice oa ss.length cap) (by rfl)
  clear hF hc hb0 R1 R3
  go_enter Tryz.func12, Tryz.ntmps12
  go_wp2_with fail
  refine C.out.mono ?_
  rintro e w1 ⟨ov, cv, xs, bq, rfl, hgv, hho, hb1⟩
  rcases hgv with ⟨hn, rfl, rfl⟩ | ⟨hh, rfl, rfl⟩
  · have hbx := hb1.trans ((Below.refl w1.heap.size w1).alloc (Nat.le_refl _) (.cells #[.slice ov ([] : List Sc).length cv] 25) |>.mono hb1.size)
    have HB1 := Lib.hid (HB.out.trans (hbx.mono HB.out.size))
    have HR3a := Lib.hid (HR3.out.below hbx HR3.out.lt)
    have RX := (Row.new w1 [.slice ov ([] : List Sc).length cv] 25).cell (i := 0) (by rfl)
    have HN := Lib.hid hn
    have C2 := Lib.hid (ownGraph_any [] ov cv (by simp) (fun s hs => by cases hs) (w1.alloc (.cells #[.slice ov ([] : List Sc).length cv] 25)) (.inl rfl))
    clear hb1 hbx hn g1
    go_wp2_with fail
    refine C2.out.mono ?_
    rintro e w2 ⟨v, hs, rfl, hO, hb2⟩
    obtain ⟨ov2, cv2, rfl, -⟩ := hO.holds
    have HO := Lib.hid (hO.lower HB1.out.size)
    have HB2 := Lib.hid (HB1.out.trans (hb2.mono HB1.out.size))
    have HR3b := Lib.hid (HR3a.out.below hb2 HR3a.out.lt)
    have m0 := HR3b.out.cell (i := 0) (v := .slice none 0 0) (by rfl)
    have l0 := HR3b.out.frozen 0
    clear hO hb2 RX
    go_wp2
    have RT := HR3b.out.set 0 (.slice ov2 ([] : List Sc).length cv2)
    have d0 := RT.cell (i := 0) (v := .slice ov2 ([] : List Sc).length cv2) (by rfl)
    refine bodyPost_ret (v := .tuple #[.agg #[.slice ov2 ([] : List Sc).length cv2], .bool false]) (by simp [results, Tryz.results12, go_sem] at d0 ⊢; simp [d0]) rfl (.inl ⟨HN.out, _, hs, rfl, ?_, HB2.out.setCell (by simp) _⟩)
    exact ⟨HO.out.len, ownsRow_otherN HO.out.row HR3b.out (by decide) 0 _, fun k t z h1 h2 => ownsRow_otherN (HO.out.items k t z h1 h2) HR3b.out (by decide) 0 _, HO.out.apart⟩
  · obtain ⟨tt, htt⟩ : ∃ tt, frsG ss = tt := ⟨_, rfl⟩
    have hlt : tt.length ≤ 1048576 := by rw [← htt]; exact (frsOk.fair HF.out hh).count
    have hle : ∀ s ∈ tt, s.items.length < 1048576 := by
      rw [← htt]
      exact fun s hs => by have := hh.valid.five s hs; omega
    rw [htt] at hho ⊢
    have hbx := hb1.trans ((Below.refl w1.heap.size w1).alloc (Nat.le_refl _) (.cells #[.slice ov tt.length cv] 25) |>.mono hb1.size)
    have HB1 := Lib.hid (HB.out.trans (hbx.mono HB.out.size))
    have HR3a := Lib.hid (HR3.out.below hbx HR3.out.lt)
    have RX := (Row.new w1 [.slice ov tt.length cv] 25).cell (i := 0) (by rfl)
    have HH := Lib.hid hh
    have C2 := Lib.hid (ownGraph_any tt ov cv hlt hle (w1.alloc (.cells #[.slice ov tt.length cv] 25)) (hho.below ((Below.refl _ _).alloc (Nat.le_refl _) _) (Nat.le_refl _)))
    have HTT := Lib.hid htt
    clear hb1 hbx hh hho hle g1 htt hlt
    go_wp2_with fail
    refine C2.out.mono ?_
    rintro e w2 ⟨v, hs, rfl, hO, hb2⟩
    obtain ⟨ov2, cv2, rfl, -⟩ := hO.holds
    have HO := Lib.hid (hO.lower HB1.out.size)
    have HB2 := Lib.hid (HB1.out.trans (hb2.mono HB1.out.size))
    have HR3b := Lib.hid (HR3a.out.below hb2 HR3a.out.lt)
    have m0 := HR3b.out.cell (i := 0) (v := .slice none 0 0) (by rfl)
    have l0 := HR3b.out.frozen 0
    clear hO hb2 RX
    go_wp2
    have RT := HR3b.out.set 0 (.slice ov2 tt.length cv2)
    have d0 := RT.cell (i := 0) (v := .slice ov2 tt.length cv2) (by rfl)
    refine bodyPost_ret (v := .tuple #[.agg #[.slice ov2 tt.length cv2], .bool true]) (by simp [results, Tryz.results12, go_sem, d0]) rfl (.inr ⟨HH.out, _, hs, rfl, ?_, HB2.out.setCell (by simp) _⟩)
    rw [HTT.out]
    exact ⟨HO.out.len, ownsRow_otherN HO.out.row HR3b.out (by decide) 0 _, fun k t z h1 h2 => ownsRow_otherN (HO.out.items k t z h1 h2) HR3b.out (by decide) 0 _, HO.out.apart⟩
end Go.Proofs.YtgbbhiihhcdpbaaGreatDoor
