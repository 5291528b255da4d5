/-
  The walks of the given RenameAt, RenameChanges and CanRename. Condition: the argument's memory holds the graph.
-/
import Derived.Test.YtimcobenmgbciaaGreatDoorWRenS
import Derived.Test.YtimcobenmgbciaaGreatDoorCanV
namespace Go.Proofs.YtimcobenmgbciaaGreatDoor
open Go Go.RowKit
set_option maxRecDepth 100000 in
set_option maxHeartbeats 4000000 in
theorem specRenameAt_any (ss : List Sc) (hF : Fair ss) (oa : Option Addr) (cap : Nat) (a b : Int) (nm : ByteArray) (w : World) (hc : HoldsScopes w oa ss) :
    Calls Tryz.prog 25 #[.agg #[.slice oa ss.length cap], .agg #[.int .i64 a, .int .i64 b], .string nm] w (GrGot (renOk ss a b nm) (renG ss a b nm) w) := by
  have hb0 : Below w.heap.size w (((w.alloc (.cells #[.slice oa ss.length cap] 32)).alloc (.cells #[.int .i64 a, .int .i64 b] 34)).alloc (.cells #[.slice none 0 0] 32)) := (((Below.refl _ _).alloc (Nat.le_refl _) _).alloc (by simp) _).alloc (by simp; omega) _
  have R1 := Lib.hid (((Row.new w [.slice oa ss.length cap] 32).alloc (.cells #[.int .i64 a, .int .i64 b] 34)).alloc (.cells #[.slice none 0 0] 32))
  have R2 := (Row.new (w.alloc (.cells #[.slice oa ss.length cap] 32)) [.int .i64 a, .int .i64 b] 34).alloc (.cells #[.slice none 0 0] 32)
  have R3 := Row.new ((w.alloc (.cells #[.slice oa ss.length cap] 32)).alloc (.cells #[.int .i64 a, .int .i64 b] 34)) [.slice none 0 0] 32
  rw [World.size_alloc] at R2
  rw [World.size_alloc, World.size_alloc] at R3
  have R2 := Lib.hid R2
  have R3 := Lib.hid R3
  have C := Lib.hid (rawRename_any ss hF oa cap a b nm _ (hc.below hb0 (Nat.le_refl _)))
  have HB := Lib.hid hb0
  have HF := Lib.hid hF
  have g1 := R1.out.cell (i := 0) (v := .slice oa ss.length cap) (by rfl)
  have p0 := R2.out.cell (i := 0) (v := .int .i64 a) (by rfl)
  have p1 := R2.out.cell (i := 1) (v := .int .i64 b) (by rfl)
  clear hF hc hb0
  go_enter Tryz.func25, Tryz.ntmps25
  go_wp2_with fail
  refine C.out.mono ?_
  rintro e w1 (⟨hn, rfl, hb1⟩ | ⟨hh, ov, cv, rfl, hho, hb1⟩)
  · have hbx := hb1.trans ((Below.refl w1.heap.size w1).alloc (Nat.le_refl _) (.cells #[.slice none 0 0] 32) |>.mono hb1.size)
    have HB1 := Lib.hid (HB.out.trans (hbx.mono HB.out.size))
    have HR3a := Lib.hid (R3.out.below hbx R3.out.lt)
    have RX := (Row.new w1 [.slice none 0 0] 32).cell (i := 0) (by rfl)
    have HN := Lib.hid hn
    have C2 := Lib.hid (ownGraph_any [] none 0 (by simp) (fun s hs => by cases hs) (w1.alloc (.cells #[.slice none 0 0] 32)) (.inl rfl))
    clear hb1 hbx hn g1 p0 p1
    go_wp2_with fail
    refine C2.out.mono ?_
    rintro e w2 ⟨v, hs, rfl, hO, hb2⟩
    obtain ⟨ov2, cv2, rfl, -⟩ := hO.holds
    have HO := Lib.hid (hO.lower HB1.out.size)
    have HB2 := Lib.hid (HB1.out.trans (hb2.mono HB1.out.size))
    have HR3b := Lib.hid (HR3a.out.below hb2 HR3a.out.lt)
    have m0 := HR3b.out.cell (i := 0) (v := .slice none 0 0) (by rfl)
    have l0 := HR3b.out.frozen 0
    clear hO hb2 RX
    go_wp2
    have RT := HR3b.out.set 0 (.slice ov2 ([] : List Sc).length cv2)
    have d0 := RT.cell (i := 0) (v := .slice ov2 ([] : List Sc).length cv2) (by rfl)
    refine bodyPost_ret (v := .tuple #[.agg #[.slice ov2 ([] : List Sc).length cv2], .bool false]) (by simp [results, Tryz.results25, go_sem] at d0 ⊢; simp [d0]) rfl (.inl ⟨HN.out, _, hs, rfl, ?_, HB2.out.setCell (by simp; omega) _⟩)
    exact ⟨HO.out.len, ownsRow_otherN HO.out.row HR3b.out (by decide) 0 _, fun k t z h1 h2 => ownsRow_otherN (HO.out.items k t z h1 h2) HR3b.out (by decide) 0 _, HO.out.apart⟩
  · have HH := Lib.hid hh
    have hlt : (renG ss a b nm).length ≤ 1048576 := (hh.fair HF.out).count
    have hle : ∀ s ∈ renG ss a b nm, s.items.length < 1048576 := fun s hs => by have := hh.valid.five s hs; omega
    obtain ⟨tt, htt⟩ : ∃ tt, renG ss a b nm = tt := ⟨_, rfl⟩
    rw [htt] at hho hlt hle ⊢
    have hbx := hb1.trans ((Below.refl w1.heap.size w1).alloc (Nat.le_refl _) (.cells #[.slice ov tt.length cv] 32) |>.mono hb1.size)
    have HB1 := Lib.hid (HB.out.trans (hbx.mono HB.out.size))
    have HR3a := Lib.hid (R3.out.below hbx R3.out.lt)
    have RX := (Row.new w1 [.slice ov tt.length cv] 32).cell (i := 0) (by rfl)
    have C2 := Lib.hid (ownGraph_any tt ov cv hlt hle (w1.alloc (.cells #[.slice ov tt.length cv] 32)) (hho.below ((Below.refl _ _).alloc (Nat.le_refl _) _) (Nat.le_refl _)))
    have HTT := Lib.hid htt
    clear hb1 hbx hh hho hle g1 p0 p1 htt hlt
    go_wp2_with fail
    refine C2.out.mono ?_
    rintro e w2 ⟨v, hs, rfl, hO, hb2⟩
    obtain ⟨ov2, cv2, rfl, -⟩ := hO.holds
    have HO := Lib.hid (hO.lower HB1.out.size)
    have HB2 := Lib.hid (HB1.out.trans (hb2.mono HB1.out.size))
    have HR3b := Lib.hid (HR3a.out.below hb2 HR3a.out.lt)
    have m0 := HR3b.out.cell (i := 0) (v := .slice none 0 0) (by rfl)
    have l0 := HR3b.out.frozen 0
    clear hO hb2 RX
    go_wp2
    have RT := HR3b.out.set 0 (.slice ov2 tt.length cv2)
    have d0 := RT.cell (i := 0) (v := .slice ov2 tt.length cv2) (by rfl)
    refine bodyPost_ret (v := .tuple #[.agg #[.slice ov2 tt.length cv2], .bool true]) (by simp [results, Tryz.results25, go_sem, d0]) rfl (.inr ⟨HH.out, _, hs, rfl, ?_, HB2.out.setCell (by simp; omega) _⟩)
    rw [HTT.out]
    exact ⟨HO.out.len, ownsRow_otherN HO.out.row HR3b.out (by decide) 0 _, fun k t z h1 h2 => ownsRow_otherN (HO.out.items k t z h1 h2) HR3b.out (by decide) 0 _, HO.out.apart⟩
theorem ren_stays {ss : List Sc} {a b : Int} {nm : ByteArray} : ∀ i j x, (i, j, x) ∈ placed 0 ss → ∃ y, (i, j, y) ∈ placed 0 (renG ss a b nm) := fun _ _ _ h => ⟨_, placed_ren h⟩
theorem OwnGr.holdsS {w : World} {B n c : Nat} {o : Option Addr} {l : List Sc} {hs : List Value} (h : OwnGr w B (.slice o n c) l hs) : HoldsScopes w o l := by
  obtain ⟨ov, cv, he, hh⟩ := h.holds
  simp only [Value.slice.injEq] at he
  rw [he.1]
  exact hh
set_option maxRecDepth 100000 in
set_option maxHeartbeats 4000000 in
theorem specRenameChanges_any (ss : List Sc) (hF : Fair ss) (oa : Option Addr) (cap : Nat) (a b : Int) (nm : ByteArray) (w : World) (hc : HoldsScopes w oa ss) :
    Calls Tryz.prog 11 #[.agg #[.slice oa ss.length cap], .agg #[.int .i64 a, .int .i64 b], .string nm] w (PlGot2 (renOk ss a b nm) (chgA ss (renG ss a b nm)) w) := by
  have hb0 : Below w.heap.size w ((w.alloc (.cells #[.slice oa ss.length cap] 32)).alloc (.cells #[.int .i64 a, .int .i64 b] 34)) := ((Below.refl _ _).alloc (Nat.le_refl _) _).alloc (by simp) _
  have R1 := Lib.hid ((Row.new w [.slice oa ss.length cap] 32).alloc (.cells #[.int .i64 a, .int .i64 b] 34))
  have R2 := Row.new (w.alloc (.cells #[.slice oa ss.length cap] 32)) [.int .i64 a, .int .i64 b] 34
  rw [World.size_alloc] at R2
  have R2 := Lib.hid R2
  have C := Lib.hid (specRenameAt_any ss hF oa cap a b nm _ (hc.below hb0 (Nat.le_refl _)))
  have HB := Lib.hid hb0
  have HF := Lib.hid hF
  have HC := Lib.hid hc
  have g1 := R1.out.cell (i := 0) (v := .slice oa ss.length cap) (by rfl)
  have p0 := R2.out.cell (i := 0) (v := .int .i64 a) (by rfl)
  have p1 := R2.out.cell (i := 1) (v := .int .i64 b) (by rfl)
  clear hF hc hb0
  go_enter Tryz.func11, Tryz.ntmps11
  go_wp2_with fail
  refine C.out.mono ?_
  rintro e w1 (⟨hn, v, hs, rfl, hO, hb1⟩ | ⟨hok, v, hs, rfl, hO, hb1⟩)
  · obtain ⟨ov, cv, rfl, -⟩ := hO.holds
    have hbx := hb1.trans ((((Below.refl w1.heap.size w1).alloc (Nat.le_refl _) (.cells #[.slice ov ([] : List Sc).length cv] 32)).alloc (by simp) (.cells #[] 34)).mono hb1.size)
    have HN := Lib.hid (And.intro hn (HB.out.trans (hbx.mono HB.out.size)))
    clear hn hO hb1 hbx
    go_wp2
    go_ret2
    exact .inl ⟨HN.out.1, _, rfl, HN.out.2⟩
  · have HOK := Lib.hid hok
    have HTF := Lib.hid (And.intro hok.valid (hok.fair HF.out))
    have hst := Lib.hid (ren_stays (ss := ss) (a := a) (b := b) (nm := nm))
    obtain ⟨tt, htt⟩ : ∃ tt, renG ss a b nm = tt := ⟨_, rfl⟩
    rw [htt] at hO hst HTF ⊢
    obtain ⟨ov, cv, rfl, -⟩ := hO.holds
    have hbN := (Below.refl w1.heap.size w1).alloc (Nat.le_refl _) (.cells #[.slice ov tt.length cv] 32)
    have hbx := hb1.trans (hbN.mono hb1.size)
    have HB1 := Lib.hid (HB.out.trans (hbx.mono HB.out.size))
    have R1a := Lib.hid (R1.out.below hbx R1.out.lt)
    have RX := (Row.new w1 [.slice ov tt.length cv] 32).cell (i := 0) (by rfl)
    have g1 := R1a.out.cell (i := 0) (v := .slice oa ss.length cap) (by rfl)
    have HTT := Lib.hid htt
    have C2 := Lib.hid (l7Changes_any ss tt HOK.out.1.1 HTF.out.1 HF.out.fits HTF.out.2.fits hst.out oa ov cap cv _ (HC.out.below HB1.out (Nat.le_refl _)) (hO.below hbN).holdsS)
    clear hok hO hb1 hbx hbN htt p0 p1
    go_wp2_with fail
    refine C2.out.mono ?_
    rintro e w2 ⟨v2, rfl, hown, hb2⟩
    have HO := Lib.hid (And.intro (ownsRow_lower hown HB1.out.size) (HB1.out.trans (hb2.mono HB1.out.size)))
    clear hown hb2
    go_wp2
    go_ret2
    exact .inr ⟨HOK.out, v2, rfl, by rw [HTT.out]; exact HO.out.1, HO.out.2⟩
set_option maxRecDepth 100000 in
set_option maxHeartbeats 4000000 in
theorem specCanRename_any (ss : List Sc) (hF : Fair ss) (oa : Option Addr) (cap : Nat) (a b : Int) (nm : ByteArray) (w : World) (hc : HoldsScopes w oa ss) :
    Calls Tryz.prog 19 #[.agg #[.slice oa ss.length cap], .agg #[.int .i64 a, .int .i64 b], .string nm] w fun e w' => ∃ ok, e = .returned (.bool ok) ∧ CanVal (renOk ss a b nm) (chgA ss (renG ss a b nm)) ok ∧ Below w.heap.size w w' := by
  have hb0 : Below w.heap.size w ((w.alloc (.cells #[.slice oa ss.length cap] 32)).alloc (.cells #[.int .i64 a, .int .i64 b] 34)) := ((Below.refl _ _).alloc (Nat.le_refl _) _).alloc (by simp) _
  have R1 := Lib.hid ((Row.new w [.slice oa ss.length cap] 32).alloc (.cells #[.int .i64 a, .int .i64 b] 34))
  have R2 := Row.new (w.alloc (.cells #[.slice oa ss.length cap] 32)) [.int .i64 a, .int .i64 b] 34
  rw [World.size_alloc] at R2
  have R2 := Lib.hid R2
  have C := Lib.hid (specRenameChanges_any ss hF oa cap a b nm _ (hc.below hb0 (Nat.le_refl _)))
  have HB := Lib.hid hb0
  have g1 := R1.out.cell (i := 0) (v := .slice oa ss.length cap) (by rfl)
  have p0 := R2.out.cell (i := 0) (v := .int .i64 a) (by rfl)
  have p1 := R2.out.cell (i := 1) (v := .int .i64 b) (by rfl)
  clear hF hc hb0
  go_enter Tryz.func19, Tryz.ntmps19
  go_wp2_with fail
  refine C.out.mono ?_
  rintro e w1 (⟨hn, g, rfl, hb⟩ | ⟨hok, v, rfl, hown, hb⟩)
  · have HN := Lib.hid (And.intro hn (HB.out.trans (hb.mono HB.out.size)))
    clear hn hb
    go_wp2
    go_ret
    exact ⟨false, rfl, .inl ⟨HN.out.1, rfl⟩, HN.out.2⟩
  · obtain ⟨ov, cv, rfl⟩ := ownsRow_slice hown
    obtain ⟨q, hq⟩ : ∃ q, ((((chgA ss (renG ss a b nm)).length : Nat) : Int) == 0) = q := ⟨_, rfl⟩
    have HN := Lib.hid (And.intro hok (And.intro (hq.symm.trans (len_zero _)) (HB.out.trans (hb.mono HB.out.size))))
    clear hok hown hb
    cases q
    all_goals go_wp2
    all_goals go_ret
    all_goals exact ⟨_, rfl, .inr ⟨HN.out.1, HN.out.2.1⟩, HN.out.2.2⟩
end Go.Proofs.YtimcobenmgbciaaGreatDoor
