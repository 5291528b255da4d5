/-
  The walks of the given AddDeclaration, l7RawMoveItem, MoveItem and of impl's MoveItem. Conditions: the argument's memory holds the graph; the package-level errors hold errors. The walks of the given l7RawMoveItem, MoveItem and of impl's MoveItem. Conditions: the argument's memory holds the graph; the package-level errors hold errors.
-/
import Derived.Test.YthoccmhgjcafnaaDoorWSpecAddT
namespace Go.Proofs.YthoccmhgjcafnaaDoor
open Go Go.RowKit
set_option maxRecDepth 100000 in
set_option maxHeartbeats 4000000 in
theorem specAddDeclaration_any (ss : List Sc) (hF : Fair ss) (oa : Option Addr) (cap : Nat) (n : Int) (nm : ByteArray) (w : World) (hc : HoldsScopes w oa ss) :
    Calls Tryd.prog 23 #[.agg #[.slice oa ss.length cap], .int .i64 n, .string nm] w (GrPlGot (addOk ss n nm) (addAt ss n 1 nm) n (endAt ss n) w) := by
  have hb0 : Below w.heap.size w (((w.alloc (.cells #[.slice oa ss.length cap] 31)).alloc (.cells #[.slice none 0 0] 31)).alloc (.cells #[.int .i64 0, .int .i64 0] 44)) := (((Below.refl _ _).alloc (Nat.le_refl _) _).alloc (by simp) _).alloc (by simp; omega) _
  have R1 := ((Row.new w [.slice oa ss.length cap] 31).alloc (.cells #[.slice none 0 0] 31)).alloc (.cells #[.int .i64 0, .int .i64 0] 44)
  have R2 := (Row.new (w.alloc (.cells #[.slice oa ss.length cap] 31)) [.slice none 0 0] 31).alloc (.cells #[.int .i64 0, .int .i64 0] 44)
  have R3 := Row.new ((w.alloc (.cells #[.slice oa ss.length cap] 31)).alloc (.cells #[.slice none 0 0] 31)) [.int .i64 0, .int .i64 0] 44
  rw [World.size_alloc] at R2
  rw [World.size_alloc, World.size_alloc] at R3
  have C := Lib.hid (rawAddDeclaration_any ss hF oa cap n nm _ (hc.below hb0 (Nat.le_refl _)))
  have HB := Lib.hid hb0
  have HBX := Lib.hid (⟨R2, R3⟩ : Boxes2 _ _ _)
  have g1 := R1.cell (i := 0) (by rfl)
  clear hF hc hb0 R1 R2 R3
  go_enter Tryd.func23, Tryd.ntmps23
  go_wp2_with fail
  refine C.out.mono ?_
  rintro e w1 (⟨hn, rfl, hb1⟩ | ⟨hh, ov, cv, rfl, hho, hb1⟩)
  · have HN := Lib.hid hn
    obtain ⟨wX, hwX⟩ : ∃ wX, wX = (w1.alloc (.cells #[.slice none 0 0] 31)).alloc (.cells #[.int .i64 0, .int .i64 0] 44) := ⟨_, rfl⟩
    have hbN : Below w1.heap.size w1 wX := by rw [hwX]; exact ((Below.refl _ _).alloc (Nat.le_refl _) _).alloc (by simp) _
    have RA : Row wX w1.heap.size 31 [.slice none 0 0] := by rw [hwX]; exact (Row.new w1 [.slice none 0 0] 31).alloc (.cells #[.int .i64 0, .int .i64 0] 44)
    have RP : Row wX (w1.heap.size + 1) 44 [.int .i64 0, .int .i64 0] := by
      have h := Row.new (w1.alloc (.cells #[.slice none 0 0] 31)) [.int .i64 0, .int .i64 0] 44
      rw [World.size_alloc] at h
      rw [hwX]; exact h
    have hbX := hb1.trans (hbN.mono hb1.size)
    have HB1 := Lib.hid (HB.out.trans (hbX.mono HB.out.size))
    have HX1 := Lib.hid (HBX.out.below hbX)
    have C2 := Lib.hid ((callsIn_wide (n := 5)).2 (ownGraph_any ([] : List Sc) none 0 (by simp) (fun s hs => by cases hs) wX.drew ((.inl rfl))))
    have hS0 := And.intro (cell_drew (RA.cell (i := 0) (v := .slice none 0 0) (by rfl))) (And.intro (cell_drew (RP.cell (i := 0) (v := .int .i64 0) (by rfl))) (cell_drew (RP.cell (i := 1) (v := .int .i64 0) (by rfl))))
    have HLE : Hid (w.heap.size + 3 ≤ w1.heap.size) := Lib.hid (by have h1 := HBX.out.pl.lt; have h2 := hb1.size; omega)
    clear hb1 hbN RA RP hbX g1 hn
    go_wp2
    rw [← hwX]
    clear hwX
    refine wp_region_kept (S := fun w' => w'.cell? ⟨w1.heap.size, 0, none⟩ = some (.slice none 0 0) ∧ w'.cell? ⟨w1.heap.size + 1, 0, none⟩ = some (.int .i64 0) ∧ w'.cell? ⟨w1.heap.size + 1, 1, none⟩ = some (.int .i64 0)) 6 (by kernel_rfl) ?_
    refine KeptAny.take (i := 0) (v := ?_) (by kernel_rfl) rfl rfl (by kernel_rfl) (by kernel_rfl) (by kernel_rfl) (fun _ _ _ h => h) (by rfl) (fun w' hw' => ?_) (fun _ => rfl) hS0 ?_
    rotate_left
    · (obtain ⟨g0, g1, g2⟩ := hw'; go_simp; try with_reducible rfl)
    refine KeptAny.take (i := 2) (v := ?_) (by kernel_rfl) rfl rfl (by kernel_rfl) (by kernel_rfl) (by kernel_rfl) (fun _ _ _ h => h) (by rfl) (fun w' hw' => ?_) (fun _ => rfl) hS0 ?_
    rotate_left
    · (obtain ⟨g0, g1, g2⟩ := hw'; go_simp; try with_reducible rfl)
    refine KeptAny.take (i := 3) (v := ?_) (by kernel_rfl) rfl rfl (by kernel_rfl) (by kernel_rfl) (by kernel_rfl) (fun _ _ _ h => h) (by rfl) (fun w' hw' => ?_) (fun _ => rfl) hS0 ?_
    rotate_left
    · (obtain ⟨g0, g1, g2⟩ := hw'; go_simp; try with_reducible rfl)
    refine KeptAny.one (i := 1) (by kernel_rfl) rfl (by rfl) (fun K hK => ?_)
    go_simp
    refine ⟨trivial, ?_⟩
    refine C2.out.mono ?_
    rintro e w2 ⟨v2, hs2, rfl, hO2, hb2⟩
    obtain ⟨ov2, cv2, rfl, -⟩ := hO2.holds
    have hb2' := ((Below.refl wX.heap.size wX).drew).trans hb2
    have HB2 := Lib.hid (HB1.out.trans (hb2'.mono HB1.out.size))
    have HX2 := Lib.hid (HX1.out.below hb2')
    have HO2 := Lib.hid (hO2.lower HB1.out.size)
    have hS2 := And.intro (cell_grow hb2 hS0.1) (And.intro (cell_grow hb2 hS0.2.1) (cell_grow hb2 hS0.2.2))
    refine hK.out _ _ hS2 (fun _ => ?_)
    clear hK hO2 hb2 hb2' hS0
    have n0 := HX2.out.gr.cell (i := 0) (v := .slice none 0 0) (by rfl)
    have f0 := HX2.out.gr.frozen 0
    have hS3 := And.intro ((cell_far (show w1.heap.size ≠ w.heap.size + 1 by have := HLE.out; omega) 0 (.slice ov2 0 cv2) (o := 0)).trans hS2.1) (And.intro ((cell_far (show w1.heap.size + 1 ≠ w.heap.size + 1 by have := HLE.out; omega) 0 (.slice ov2 0 cv2) (o := 0)).trans hS2.2.1) ((cell_far (show w1.heap.size + 1 ≠ w.heap.size + 1 by have := HLE.out; omega) 0 (.slice ov2 0 cv2) (o := 1)).trans hS2.2.2))
    refine KeptAny.one (i := 4) (by kernel_rfl) rfl (by rfl) (fun K hK => ?_)
    go_simp
    refine hK.out _ _ hS3 (fun _ => ?_)
    clear hK hS2
    have p0 := (cell_far (show w.heap.size + 1 + 1 ≠ w.heap.size + 1 by omega) 0 (.slice ov2 0 cv2) (o := 0)).trans (HX2.out.pl.cell (i := 0) (v := .int .i64 0) (by rfl))
    have p1 := (cell_far (show w.heap.size + 1 + 1 ≠ w.heap.size + 1 by omega) 0 (.slice ov2 0 cv2) (o := 1)).trans (HX2.out.pl.cell (i := 1) (v := .int .i64 0) (by rfl))
    have q0 := HX2.out.pl.frozen 0
    have q1 := HX2.out.pl.frozen 1
    have hS4 := And.intro ((cell_far (show w1.heap.size ≠ w.heap.size + 1 + 1 by have := HLE.out; omega) 1 (.int .i64 0) (o := 0)).trans ((cell_far (show w1.heap.size ≠ w.heap.size + 1 + 1 by have := HLE.out; omega) 0 (.int .i64 0) (o := 0)).trans hS3.1)) (And.intro ((cell_far (show w1.heap.size + 1 ≠ w.heap.size + 1 + 1 by have := HLE.out; omega) 1 (.int .i64 0) (o := 0)).trans ((cell_far (show w1.heap.size + 1 ≠ w.heap.size + 1 + 1 by have := HLE.out; omega) 0 (.int .i64 0) (o := 0)).trans hS3.2.1)) ((cell_far (show w1.heap.size + 1 ≠ w.heap.size + 1 + 1 by have := HLE.out; omega) 1 (.int .i64 0) (o := 1)).trans ((cell_far (show w1.heap.size + 1 ≠ w.heap.size + 1 + 1 by have := HLE.out; omega) 0 (.int .i64 0) (o := 1)).trans hS3.2.2)))
    refine KeptAny.one (i := 5) (by kernel_rfl) rfl (by rfl) (fun K hK => ?_)
    go_simp
    refine hK.out _ _ hS4 (fun _ => ?_)
    clear hK hS3
    refine KeptAny.one (i := 6) (by kernel_rfl) rfl (by rfl) (fun K hK => ?_)
    go_simp
    refine hK.out _ _ hS4 (fun _ => ?_)
    clear hK
    refine KeptAny.done (by kernel_rfl) ?_ _
    go_wp2
    refine bodyPost_ret (v := .tuple #[.agg #[.slice ov2 0 cv2], .agg #[.int .i64 0, .int .i64 0], .bool false]) ?_ rfl (.inl ⟨HN.out, _, hs2, rfl, ?_, ?_⟩)
    · obtain ⟨-, -, d2, d3, d4⟩ := HX2.out.sets (by omega) (.slice ov2 0 cv2) (.int .i64 0) (.int .i64 0)
      simp [results, Tryd.results23, go_sem, d2, d3, d4]
    · exact ((HO2.out.past HX2.out.gr).pastP (HX2.out.pl.other (a := ⟨w.heap.size + 1, 0, none⟩) (by show w.heap.size + 1 ≠ w.heap.size + 1 + 1; omega) _)).pastP ((HX2.out.pl.other (a := ⟨w.heap.size + 1, 0, none⟩) (by show w.heap.size + 1 ≠ w.heap.size + 1 + 1; omega) _).set 0 _)
    · repeat (first | exact HB2.out | apply Below.drew | refine Below.setCell ?_ (by simp <;> omega) _)
  · obtain ⟨z, hz⟩ : ∃ z, endAt ss n = z := ⟨_, rfl⟩
    have hval := addOk.valid hh (kind := 1) (.inl rfl)
    obtain ⟨l, hl⟩ : ∃ l, addAt ss n 1 nm = l := ⟨_, rfl⟩
    rw [hl] at hho hval
    rw [hl, hz]
    have HN := Lib.hid (And.intro hh (And.intro hl hz))
    have HH : Hid (l.length ≤ 6 ∧ ∀ s ∈ l, s.items.length ≤ 5) := Lib.hid ⟨hval.count.2, hval.five⟩
    clear hh hl hz hval
    obtain ⟨wX, hwX⟩ : ∃ wX, wX = (w1.alloc (.cells #[.slice ov l.length cv] 31)).alloc (.cells #[.int .i64 n, .int .i64 z] 44) := ⟨_, rfl⟩
    have hbN : Below w1.heap.size w1 wX := by rw [hwX]; exact ((Below.refl _ _).alloc (Nat.le_refl _) _).alloc (by simp) _
    have RA : Row wX w1.heap.size 31 [.slice ov l.length cv] := by rw [hwX]; exact (Row.new w1 [.slice ov l.length cv] 31).alloc (.cells #[.int .i64 n, .int .i64 z] 44)
    have RP : Row wX (w1.heap.size + 1) 44 [.int .i64 n, .int .i64 z] := by
      have h := Row.new (w1.alloc (.cells #[.slice ov l.length cv] 31)) [.int .i64 n, .int .i64 z] 44
      rw [World.size_alloc] at h
      rw [hwX]; exact h
    have hbX := hb1.trans (hbN.mono hb1.size)
    have HB1 := Lib.hid (HB.out.trans (hbX.mono HB.out.size))
    have HX1 := Lib.hid (HBX.out.below hbX)
    have C2 := Lib.hid ((callsIn_wide (n := 5)).2 (ownGraph_any (l) ov cv (by have := HH.out.1; omega) (fun s hs => by have := HH.out.2 s hs; omega) wX.drew (hho.below hbN.drew (Nat.le_refl _))))
    have hS0 := And.intro (cell_drew (RA.cell (i := 0) (v := .slice ov l.length cv) (by rfl))) (And.intro (cell_drew (RP.cell (i := 0) (v := .int .i64 n) (by rfl))) (cell_drew (RP.cell (i := 1) (v := .int .i64 z) (by rfl))))
    have HLE : Hid (w.heap.size + 3 ≤ w1.heap.size) := Lib.hid (by have h1 := HBX.out.pl.lt; have h2 := hb1.size; omega)
    clear hb1 hbN RA RP hbX g1 hho
    go_wp2
    rw [← hwX]
    clear hwX
    refine wp_region_kept (S := fun w' => w'.cell? ⟨w1.heap.size, 0, none⟩ = some (.slice ov l.length cv) ∧ w'.cell? ⟨w1.heap.size + 1, 0, none⟩ = some (.int .i64 n) ∧ w'.cell? ⟨w1.heap.size + 1, 1, none⟩ = some (.int .i64 z)) 6 (by kernel_rfl) ?_
    refine KeptAny.take (i := 0) (v := ?_) (by kernel_rfl) rfl rfl (by kernel_rfl) (by kernel_rfl) (by kernel_rfl) (fun _ _ _ h => h) (by rfl) (fun w' hw' => ?_) (fun _ => rfl) hS0 ?_
    rotate_left
    · (obtain ⟨g0, g1, g2⟩ := hw'; go_simp; try with_reducible rfl)
    refine KeptAny.take (i := 2) (v := ?_) (by kernel_rfl) rfl rfl (by kernel_rfl) (by kernel_rfl) (by kernel_rfl) (fun _ _ _ h => h) (by rfl) (fun w' hw' => ?_) (fun _ => rfl) hS0 ?_
    rotate_left
    · (obtain ⟨g0, g1, g2⟩ := hw'; go_simp; try with_reducible rfl)
    refine KeptAny.take (i := 3) (v := ?_) (by kernel_rfl) rfl rfl (by kernel_rfl) (by kernel_rfl) (by kernel_rfl) (fun _ _ _ h => h) (by rfl) (fun w' hw' => ?_) (fun _ => rfl) hS0 ?_
    rotate_left
    · (obtain ⟨g0, g1, g2⟩ := hw'; go_simp; try with_reducible rfl)
    refine KeptAny.one (i := 1) (by kernel_rfl) rfl (by rfl) (fun K hK => ?_)
    go_simp
    refine ⟨trivial, ?_⟩
    refine C2.out.mono ?_
    rintro e w2 ⟨v2, hs2, rfl, hO2, hb2⟩
    obtain ⟨ov2, cv2, rfl, -⟩ := hO2.holds
    have hb2' := ((Below.refl wX.heap.size wX).drew).trans hb2
    have HB2 := Lib.hid (HB1.out.trans (hb2'.mono HB1.out.size))
    have HX2 := Lib.hid (HX1.out.below hb2')
    have HO2 := Lib.hid (hO2.lower HB1.out.size)
    have hS2 := And.intro (cell_grow hb2 hS0.1) (And.intro (cell_grow hb2 hS0.2.1) (cell_grow hb2 hS0.2.2))
    refine hK.out _ _ hS2 (fun _ => ?_)
    clear hK hO2 hb2 hb2' hS0
    have n0 := HX2.out.gr.cell (i := 0) (v := .slice none 0 0) (by rfl)
    have f0 := HX2.out.gr.frozen 0
    have hS3 := And.intro ((cell_far (show w1.heap.size ≠ w.heap.size + 1 by have := HLE.out; omega) 0 (.slice ov2 l.length cv2) (o := 0)).trans hS2.1) (And.intro ((cell_far (show w1.heap.size + 1 ≠ w.heap.size + 1 by have := HLE.out; omega) 0 (.slice ov2 l.length cv2) (o := 0)).trans hS2.2.1) ((cell_far (show w1.heap.size + 1 ≠ w.heap.size + 1 by have := HLE.out; omega) 0 (.slice ov2 l.length cv2) (o := 1)).trans hS2.2.2))
    refine KeptAny.one (i := 4) (by kernel_rfl) rfl (by rfl) (fun K hK => ?_)
    go_simp
    refine hK.out _ _ hS3 (fun _ => ?_)
    clear hK hS2
    have p0 := (cell_far (show w.heap.size + 1 + 1 ≠ w.heap.size + 1 by omega) 0 (.slice ov2 l.length cv2) (o := 0)).trans (HX2.out.pl.cell (i := 0) (v := .int .i64 0) (by rfl))
    have p1 := (cell_far (show w.heap.size + 1 + 1 ≠ w.heap.size + 1 by omega) 0 (.slice ov2 l.length cv2) (o := 1)).trans (HX2.out.pl.cell (i := 1) (v := .int .i64 0) (by rfl))
    have q0 := HX2.out.pl.frozen 0
    have q1 := HX2.out.pl.frozen 1
    have hS4 := And.intro ((cell_far (show w1.heap.size ≠ w.heap.size + 1 + 1 by have := HLE.out; omega) 1 (.int .i64 z) (o := 0)).trans ((cell_far (show w1.heap.size ≠ w.heap.size + 1 + 1 by have := HLE.out; omega) 0 (.int .i64 n) (o := 0)).trans hS3.1)) (And.intro ((cell_far (show w1.heap.size + 1 ≠ w.heap.size + 1 + 1 by have := HLE.out; omega) 1 (.int .i64 z) (o := 0)).trans ((cell_far (show w1.heap.size + 1 ≠ w.heap.size + 1 + 1 by have := HLE.out; omega) 0 (.int .i64 n) (o := 0)).trans hS3.2.1)) ((cell_far (show w1.heap.size + 1 ≠ w.heap.size + 1 + 1 by have := HLE.out; omega) 1 (.int .i64 z) (o := 1)).trans ((cell_far (show w1.heap.size + 1 ≠ w.heap.size + 1 + 1 by have := HLE.out; omega) 0 (.int .i64 n) (o := 1)).trans hS3.2.2)))
    refine KeptAny.one (i := 5) (by kernel_rfl) rfl (by rfl) (fun K hK => ?_)
    go_simp
    refine hK.out _ _ hS4 (fun _ => ?_)
    clear hK hS3
    refine KeptAny.one (i := 6) (by kernel_rfl) rfl (by rfl) (fun K hK => ?_)
    go_simp
    refine hK.out _ _ hS4 (fun _ => ?_)
    clear hK
    refine KeptAny.done (by kernel_rfl) ?_ _
    go_wp2
    refine bodyPost_ret (v := .tuple #[.agg #[.slice ov2 l.length cv2], .agg #[.int .i64 n, .int .i64 z], .bool true]) ?_ rfl (.inr ⟨HN.out.1, _, hs2, by rw [HN.out.2.2], ?_, ?_⟩)
    · obtain ⟨-, -, d2, d3, d4⟩ := HX2.out.sets (by omega) (.slice ov2 l.length cv2) (.int .i64 n) (.int .i64 z)
      simp [results, Tryd.results23, go_sem, d2, d3, d4]
    · rw [HN.out.2.1]; exact ((HO2.out.past HX2.out.gr).pastP (HX2.out.pl.other (a := ⟨w.heap.size + 1, 0, none⟩) (by show w.heap.size + 1 ≠ w.heap.size + 1 + 1; omega) _)).pastP ((HX2.out.pl.other (a := ⟨w.heap.size + 1, 0, none⟩) (by show w.heap.size + 1 ≠ w.heap.size + 1 + 1; omega) _).set 0 _)
    · repeat (first | exact HB2.out | apply Below.drew | refine Below.setCell ?_ (by simp <;> omega) _)
end Go.Proofs.YthoccmhgjcafnaaDoor
namespace Go.Proofs.YthoccmhgjcafnaaDoor
open Go Go.RowKit
end Go.Proofs.YthoccmhgjcafnaaDoor
