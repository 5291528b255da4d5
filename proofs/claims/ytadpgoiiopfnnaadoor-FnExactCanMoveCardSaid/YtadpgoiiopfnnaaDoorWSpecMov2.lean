/-
  The walks of the given AddDeclaration, l7RawMoveItem, MoveItem and of impl's MoveItem. Conditions: the argument's memory holds the graph; the package-level errors hold errors. The walks of the given l7RawMoveItem, MoveItem and of impl's MoveItem. Conditions: the argument's memory holds the graph; the package-level errors hold errors.
-/
import Derived.Test.YtadpgoiiopfnnaaDoorWSpecAddT
namespace Go.Proofs.YtadpgoiiopfnnaaDoor
open Go Go.RowKit
set_option maxRecDepth 100000 in
set_option maxHeartbeats 4000000 in
theorem specAddDeclaration_any (ss : List Sc) (hF : Fair ss) (oa : Option Addr) (cap : Nat) (n : Int) (nm : ByteArray) (w : World) (hc : HoldsScopes w oa ss) :
    Calls Tryd.prog 23 #[.agg #[.slice oa ss.length cap], .int .i64 n, .string nm] w (GrPlGot (addOk ss n nm) (addAt ss n 1 nm) n (endAt ss n) w) := by
  have hb0 : Below w.heap.size w (((w.alloc (.cells #[.slice oa ss.length cap] 30)).alloc (.cells #[.slice none 0 0] 30)).alloc (.cells #[.int .i64 0, .int .i64 0] 34)) := (((Below.refl _ _).alloc (Nat.le_refl _) _).alloc (by simp) _).alloc (by simp; omega) _
  have R1 := ((Row.new w [.slice oa ss.length cap] 30).alloc (.cells #[.slice none 0 0] 30)).alloc (.cells #[.int .i64 0, .int .i64 0] 34)
  have R2 := (Row.new (w.alloc (.cells #[.slice oa ss.length cap] 30)) [.slice none 0 0] 30).alloc (.cells #[.int .i64 0, .int .i64 0] 34)
  have R3 := Row.new ((w.alloc (.cells #[.slice oa ss.length cap] 30)).alloc (.cells #[.slice none 0 0] 30)) [.int .i64 0, .int .i64 0] 34
  rw [World.size_alloc] at R2
  rw [World.size_alloc, World.size_alloc] at R3
  have C := Lib.hid (rawAddDeclaration_any ss hF oa cap n nm _ (hc.below hb0 (Nat.le_refl _)))
  have HB := Lib.hid hb0
  have HBX := Lib.hid (⟨R2, R3⟩ : Boxes2 _ _ _)
  have g1 := R1.cell (i := 0) (by rfl)
  clear hF hc hb0 R1 R2 R3
  go_enter Tryd.func23, Tryd.ntmps23
  go_wp2_with fail
  refine C.out.mono ?_
  rintro e w1 (⟨hn, rfl, hb1⟩ | ⟨hh, ov, cv, rfl, hho, hb1⟩)
  · have HN := Lib.hid hn
    obtain ⟨wX, hwX⟩ : ∃ wX, wX = (w1.alloc (.cells #[.slice none 0 0] 30)).alloc (.cells #[.int .i64 0, .int .i64 0] 34) := ⟨_, rfl⟩
    have hbN : Below w1.heap.size w1 wX := by rw [hwX]; exact ((Below.refl _ _).alloc (Nat.le_refl _) _).alloc (by simp) _
    have RA : Row wX w1.heap.size 30 [.slice none 0 0] := by rw [hwX]; exact (Row.new w1 [.slice none 0 0] 30).alloc (.cells #[.int .i64 0, .int .i64 0] 34)
    have RP : Row wX (w1.heap.size + 1) 34 [.int .i64 0, .int .i64 0] := by
      have h := Row.new (w1.alloc (.cells #[.slice none 0 0] 30)) [.int .i64 0, .int .i64 0] 34
      rw [World.size_alloc] at h
      rw [hwX]; exact h
    have hbX := hb1.trans (hbN.mono hb1.size)
    have HB1 := Lib.hid (HB.out.trans (hbX.mono HB.out.size))
    have HX1 := Lib.hid (HBX.out.below hbX)
    have C2 := Lib.hid ((callsIn_wide (n := 5)).2 (ownGraph_any ([] : List Sc) none 0 (by simp) (fun s hs => by cases hs) wX.drew ((.inl rfl))))
    have hS0 := And.intro (cell_drew (RA.cell (i := 0) (v := .slice none 0 0) (by rfl))) (And.intro (cell_drew (RP.cell (i := 0) (v := .int .i64 0) (by rfl))) (cell_drew (RP.cell (i := 1) (v := .int .i64 0) (by rfl))))
    have HLE : Hid (w.heap.size + 3 ≤ w1.heap.size) := Lib.hid (by have h1 := HBX.out.pl.lt; have h2 := hb1.size; omega)
    clear hb1 hbN RA RP hbX g1 hn
    go_wp2
    rw [← hwX]
    clear hwX
    refine wp_region_kept (S := fun w' => w'.cell? ⟨w1.heap.size, 0, none⟩ = some (.slice none 0 0) ∧ w'.cell? ⟨w1.heap.size + 1, 0, none⟩ = some (.int .i64 0) ∧ w'.cell? ⟨w1.heap.size + 1, 1, none⟩ = some (.int .i64 0)) 6 (by kernel_rfl) ?_
    refine KeptAny.take (i := 0) (v := ?_) (by kernel_rfl) rfl rfl (by kernel_rfl) (by kernel_rfl) (by kernel_rfl) (fun _ _ _ h => h) (by rfl) (fun w' hw' => ?_) (fun _ => rfl) hS0 ?_
    rotate_left
    · (obtain ⟨g0, g1, g2⟩ := hw'; go_simp; try with_reducible rfl)
    refine KeptAny.take (i := 2) (v := ?_) (by kernel_rfl) rfl rfl (by kernel_rfl) (by kernel_rfl) (by kernel_rfl) (fun _ _ _ h => h) (by rfl) (fun w' hw' => ?_) (fun _ => rfl) hS0 ?_
    rotate_left
    · (obtain ⟨g0, g1, g2⟩ := hw'; go_simp; try with_reducible rfl)
    refine KeptAny.take (i := 3) (v := ?_) (by kernel_rfl) rfl rfl (by kernel_rfl) (by kernel_rfl) (by kernel_rfl) (fun _ _ _ h => h) (by rfl) (fun w' hw' => ?_) (fun _ => rfl) hS0 ?_
    rotate_left
    · (obtain ⟨g0, g1, g2⟩ := hw'; go_simp; try with_reducible rfl)
    refine KeptAny.one (i := 1) (by kernel_rfl) rfl (by rfl) (fun K hK => ?_)
    go_simp
    refine ⟨trivial, ?_⟩
    refine C2.out.mono ?_
    rintro e w2 ⟨v2, hs2, rfl, hO2, hb2⟩
    obtain ⟨ov2, cv2, rfl, -⟩ := hO2.holds
    have hb2' := ((Below.refl wX.heap.size wX).drew).trans hb2
    have HB2 := Lib.hid (HB1.out.trans (hb2'.mono HB1.out.size))
    have HX2 := Lib.hid (HX1.out.below hb2')
    have HO2 := Lib.hid (hO2.lower HB1.out.size)
    have hS2 := And.intro (cell_grow hb2 hS0.1) (And.intro (cell_grow hb2 hS0.2.1) (cell_grow hb2 hS0.2.2))
    refine hK.out _ _ hS2 (fun _ => ?_)
    clear hK hO2 hb2 hb2' hS0
    have n0 := HX2.out.gr.cell (i := 0) (v := .slice none 0 0) (by rfl)
    have f0 := HX2.out.gr.frozen 0
    have hS3 := And.intro ((cell_far (show w1.heap.size ≠ w.heap.size + 1 by have := HLE.out; omega) 0 (.slice ov2 0 cv2) (o := 0)).trans hS2.1) (And.intro ((cell_far (show w1.heap.size + 1 ≠ w.heap.size + 1 by have := HLE.out; omega) 0 (.slice ov2 0 cv2) (o := 0)).trans hS2.2.1) ((cell_far (show w1.heap.size + 1 ≠ w.heap.size + 1 by have := HLE.out; omega) 0 (.slice ov2 0 cv2) (o := 1)).trans hS2.2.2))
    refine KeptAny.one (i := 4) (by kernel_rfl) rfl (by rfl) (fun K hK => ?_)
    go_simp
    refine hK.out _ _ hS3 (fun _ => ?_)
    clear hK hS2
    have p0 := (cell_far (show w.heap.size + 1 + 1 ≠ w.heap.size + 1 by omega) 0 (.slice ov2 0 cv2) (o := 0)).trans (HX2.out.pl.cell (i := 0) (v := .int .i64 0) (by rfl))
    have p1 := (cell_far (show w.heap.size + 1 + 1 ≠ w.heap.size + 1 by omega) 0 (.slice ov2 0 cv2) (o := 1)).trans (HX2.out.pl.cell (i := 1) (v := .int .i64 0) (by rfl))
    have q0 := HX2.out.pl.frozen 0
    have q1 := HX2.out.pl.frozen 1
    have hS4 := And.intro ((cell_far (show w1.heap.size ≠ w.heap.size + 1 + 1 by have := HLE.out; omega) 1 (.int .i64 0) (o := 0)).trans ((cell_far (show w1.heap.size ≠ w.heap.size + 1 + 1 by have := HLE.out; omega) 0 (.int .i64 0) (o := 0)).trans hS3.1)) (And.intro ((cell_far (show w1.heap.size + 1 ≠ w.heap.size + 1 + 1 by have := HLE.out; omega) 1 (.int .i64 0) (o := 0)).trans ((cell_far (show w1.heap.size + 1 ≠ w.heap.size + 1 + 1 by have := HLE.out; omega) 0 (.int .i64 0) (o := 0)).trans hS3.2.1)) ((cell_far (show w1.heap.size + 1 ≠ w.heap.size + 1 + 1 by have := HLE.out; omega) 1 (.int .i64 0) (o := 1)).trans ((cell_far (show w1.heap.size + 1 ≠ w.heap.size + 1 + 1 by have := HLE.out; omega) 0 (.int .i64 0) (o := 1)).trans hS3.2.2)))
    refine KeptAny.one (i := 5) (by kernel_rfl) rfl (by rfl) (fun K hK => ?_)
    go_simp
    refine hK.out _ _ hS4 (fun _ => ?_)
    clear hK hS3
    refine KeptAny.one (i := 6) (by kernel_rfl) rfl (by rfl) (fun K hK => ?_)
    go_simp
    refine hK.out _ _ hS4 (fun _ => ?_)
    clear hK
    refine KeptAny.done (by kernel_rfl) ?_ _
    go_wp2
    refine bodyPost_ret (v := .tuple #[.agg #[.slice ov2 0 cv2], .agg #[.int .i64 0, .int .i64 0], .bool false]) ?_ rfl (.inl ⟨HN.out, _, hs2, rfl, ?_, ?_⟩)
    · obtain ⟨-, -, d2, d3, d4⟩ := HX2.out.sets (by omega) (.slice ov2 0 cv2) (.int .i64 0) (.int .i64 0)
      simp [results, Tryd.results23, go_sem, d2, d3, d4]
    · exact ((HO2.out.past HX2.out.gr).pastP (HX2.out.pl.other (a := ⟨w.heap.size + 1, 0, none⟩) (by show w.heap.size + 1 ≠ w.heap.size + 1 + 1; omega) _)).pastP ((HX2.out.pl.other (a := ⟨w.heap.size + 1, 0, none⟩) (by show w.heap.size + 1 ≠ w.heap.size + 1 + 1; omega) _).set 0 _)
    · repeat (first | exact HB2.out | apply Below.drew | refine Below.setCell ?_ (by simp <;> omega) _)
  · obtain ⟨z, hz⟩ : ∃ z, endAt ss n = z := ⟨_, rfl⟩
    have hval := addOk.valid hh (kind := 1) (.inl rfl)
    obtain ⟨l, hl⟩ : ∃ l, addAt ss n 1 nm = l := ⟨_, rfl⟩
    rw [hl] at hho hval
    rw [hl, hz]
    have HN := Lib.hid (And.intro hh (And.intro hl hz))
    have HH : Hid (l.length ≤ 6 ∧ ∀ s ∈ l, s.items.length ≤ 5) := Lib.hid ⟨hval.count.2, hval.five⟩
    clear hh hl hz hval
    obtain ⟨wX, hwX⟩ : ∃ wX, wX = (w1.alloc (.cells #[.slice ov l.length cv] 30)).alloc (.cells #[.int .i64 n, .int .i64 z] 34) := ⟨_, rfl⟩
    have hbN : Below w1.heap.size w1 wX := by rw [hwX]; exact ((Below.refl _ _).alloc (Nat.le_refl _) _).alloc (by simp) _
    have RA : Row wX w1.heap.size 30 [.slice ov l.length cv] := by rw [hwX]; exact (Row.new w1 [.slice ov l.length cv] 30).alloc (.cells #[.int .i64 n, .int .i64 z] 34)
    have RP : Row wX (w1.heap.size + 1) 34 [.int .i64 n, .int .i64 z] := by
      have h := Row.new (w1.alloc (.cells #[.slice ov l.length cv] 30)) [.int .i64 n, .int .i64 z] 34
      rw [World.size_alloc] at h
      rw [hwX]; exact h
    have hbX := hb1.trans (hbN.mono hb1.size)
    have HB1 := Lib.hid (HB.out.trans (hbX.mono HB.out.size))
    have HX1 := Lib.hid (HBX.out.below hbX)
    have C2 := Lib.hid ((callsIn_wide (n := 5)).2 (ownGraph_any (l) ov cv (by have := HH.out.1; omega) (fun s hs => by have := HH.out.2 s hs; omega) wX.drew (hho.below hbN.drew (Nat.le_refl _))))
    have hS0 := And.intro (cell_drew (RA.cell (i := 0) (v := .slice ov l.length cv) (by rfl))) (And.intro (cell_drew (RP.cell (i := 0) (v := .int .i64 n) (by rfl))) (cell_drew (RP.cell (i := 1) (v := .int .i64 z) (by rfl))))
    have HLE : Hid (w.heap.size + 3 ≤ w1.heap.size) := Lib.hid (by have h1 := HBX.out.pl.lt; have h2 := hb1.size; omega)
    clear hb1 hbN RA RP hbX g1 hho
    go_wp2
    rw [← hwX]
    clear hwX
    refine wp_region_kept (S := fun w' => w'.cell? ⟨w1.heap.size, 0, none⟩ = some (.slice ov l.length cv) ∧ w'.cell? ⟨w1.heap.size + 1, 0, none⟩ = some (.int .i64 n) ∧ w'.cell? ⟨w1.heap.size + 1, 1, none⟩ = some (.int .i64 z)) 6 (by kernel_rfl) ?_
    refine KeptAny.take (i := 0) (v := ?_) (by kernel_rfl) rfl rfl (by kernel_rfl) (by kernel_rfl) (by kernel_rfl) (fun _ _ _ h => h) (by rfl) (fun w' hw' => ?_) (fun _ => rfl) hS0 ?_
    rotate_left
    · (obtain ⟨g0, g1, g2⟩ := hw'; go_simp; try with_reducible rfl)
    refine KeptAny.take (i := 2) (v := ?_) (by kernel_rfl) rfl rfl (by kernel_rfl) (by kernel_rfl) (by kernel_rfl) (fun _ _ _ h => h) (by rfl) (fun w' hw' => ?_) (fun _ => rfl) hS0 ?_
    rotate_left
    · (obtain ⟨g0, g1, g2⟩ := hw'; go_simp; try with_reducible rfl)
    refine KeptAny.take (i := 3) (v := ?_) (by kernel_rfl) rfl rfl (by kernel_rfl) (by kernel_rfl) (by kernel_rfl) (fun _ _ _ h => h) (by rfl) (fun w' hw' => ?_) (fun _ => rfl) hS0 ?_
    rotate_left
    · (obtain ⟨g0, g1, g2⟩ := hw'; go_simp; try with_reducible rfl)
    refine KeptAny.one (i := 1) (by kernel_rfl) rfl (by rfl) (fun K hK => ?_)
    go_simp
    refine ⟨trivial, ?_⟩
    refine C2.out.mono ?_
    rintro e w2 ⟨v2, hs2, rfl, hO2, hb2⟩
    obtain ⟨ov2, cv2, rfl, -⟩ := hO2.holds
    have hb2' := ((Below.refl wX.heap.size wX).drew).trans hb2
    have HB2 := Lib.hid (HB1.out.trans (hb2'.mono HB1.out.size))
    have HX2 := Lib.hid (HX1.out.below hb2')
    have HO2 := Lib.hid (hO2.lower HB1.out.size)
    have hS2 := And.intro (cell_grow hb2 hS0.1) (And.intro (cell_grow hb2 hS0.2.1) (cell_grow hb2 hS0.2.2))
    refine hK.out _ _ hS2 (fun _ => ?_)
    clear hK hO2 hb2 hb2' hS0
    have n0 := HX2.out.gr.cell (i := 0) (v := .slice none 0 0) (by rfl)
    have f0 := HX2.out.gr.frozen 0
    have hS3 := And.intro ((cell_far (show w1.heap.size ≠ w.heap.size + 1 by have := HLE.out; omega) 0 (.slice ov2 l.length cv2) (o := 0)).trans hS2.1) (And.intro ((cell_far (show w1.heap.size + 1 ≠ w.heap.size + 1 by have := HLE.out; omega) 0 (.slice ov2 l.length cv2) (o := 0)).trans hS2.2.1) ((cell_far (show w1.heap.size + 1 ≠ w.heap.size + 1 by have := HLE.out; omega) 0 (.slice ov2 l.length cv2) (o := 1)).trans hS2.2.2))
    refine KeptAny.one (i := 4) (by kernel_rfl) rfl (by rfl) (fun K hK => ?_)
    go_simp
    refine hK.out _ _ hS3 (fun _ => ?_)
    clear hK hS2
    have p0 := (cell_far (show w.heap.size + 1 + 1 ≠ w.heap.size + 1 by omega) 0 (.slice ov2 l.length cv2) (o := 0)).trans (HX2.out.pl.cell (i := 0) (v := .int .i64 0) (by rfl))
    have p1 := (cell_far (show w.heap.size + 1 + 1 ≠ w.heap.size + 1 by omega) 0 (.slice ov2 l.length cv2) (o := 1)).trans (HX2.out.pl.cell (i := 1) (v := .int .i64 0) (by rfl))
    have q0 := HX2.out.pl.frozen 0
    have q1 := HX2.out.pl.frozen 1
    have hS4 := And.intro ((cell_far (show w1.heap.size ≠ w.heap.size + 1 + 1 by have := HLE.out; omega) 1 (.int .i64 z) (o := 0)).trans ((cell_far (show w1.heap.size ≠ w.heap.size + 1 + 1 by have := HLE.out; omega) 0 (.int .i64 n) (o := 0)).trans hS3.1)) (And.intro ((cell_far (show w1.heap.size + 1 ≠ w.heap.size + 1 + 1 by have := HLE.out; omega) 1 (.int .i64 z) (o := 0)).trans ((cell_far (show w1.heap.size + 1 ≠ w.heap.size + 1 + 1 by have := HLE.out; omega) 0 (.int .i64 n) (o := 0)).trans hS3.2.1)) ((cell_far (show w1.heap.size + 1 ≠ w.heap.size + 1 + 1 by have := HLE.out; omega) 1 (.int .i64 z) (o := 1)).trans ((cell_far (show w1.heap.size + 1 ≠ w.heap.size + 1 + 1 by have := HLE.out; omega) 0 (.int .i64 n) (o := 1)).trans hS3.2.2)))
    refine KeptAny.one (i := 5) (by kernel_rfl) rfl (by rfl) (fun K hK => ?_)
    go_simp
    refine hK.out _ _ hS4 (fun _ => ?_)
    clear hK hS3
    refine KeptAny.one (i := 6) (by kernel_rfl) rfl (by rfl) (fun K hK => ?_)
    go_simp
    refine hK.out _ _ hS4 (fun _ => ?_)
    clear hK
    refine KeptAny.done (by kernel_rfl) ?_ _
    go_wp2
    refine bodyPost_ret (v := .tuple #[.agg #[.slice ov2 l.length cv2], .agg #[.int .i64 n, .int .i64 z], .bool true]) ?_ rfl (.inr ⟨HN.out.1, _, hs2, by rw [HN.out.2.2], ?_, ?_⟩)
    · obtain ⟨-, -, d2, d3, d4⟩ := HX2.out.sets (by omega) (.slice ov2 l.length cv2) (.int .i64 n) (.int .i64 z)
      simp [results, Tryd.results23, go_sem, d2, d3, d4]
    · rw [HN.out.2.1]; exact ((HO2.out.past HX2.out.gr).pastP (HX2.out.pl.other (a := ⟨w.heap.size + 1, 0, none⟩) (by show w.heap.size + 1 ≠ w.heap.size + 1 + 1; omega) _)).pastP ((HX2.out.pl.other (a := ⟨w.heap.size + 1, 0, none⟩) (by show w.heap.size + 1 ≠ w.heap.size + 1 + 1; omega) _).set 0 _)
    · repeat (first | exact HB2.out | apply Below.drew | refine Below.setCell ?_ (by simp <;> omega) _)
end Go.Proofs.YtadpgoiiopfnnaaDoor
namespace Go.Proofs.YtadpgoiiopfnnaaDoor
open Go Go.RowKit
set_option maxRecDepth 100000 in
set_option maxHeartbeats 4000000 in
theorem rawMoveItem_any (ss : List Sc) (hF : Fair ss) (oa : Option Addr) (cap : Nat) (a b n : Int) (w : World) (hc : HoldsScopes w oa ss) :
    Calls Tryd.prog 70 #[.agg #[.slice oa ss.length cap], .agg #[.int .i64 a, .int .i64 b], .int .i64 n] w (RawGr (movOk ss a b n) (movAt ss a b n) w) := by
  have hb0 : Below w.heap.size w (((w.alloc (.cells #[.slice oa ss.length cap] 30)).alloc (.cells #[.int .i64 a, .int .i64 b] 34)).alloc (.cells #[.slice none 0 0] 30)) := (((Below.refl _ _).alloc (Nat.le_refl _) _).alloc (by simp) _).alloc (by simp; omega) _
  have R1 := ((Row.new w [.slice oa ss.length cap] 30).alloc (.cells #[.int .i64 a, .int .i64 b] 34)).alloc (.cells #[.slice none 0 0] 30)
  have R2 := (Row.new (w.alloc (.cells #[.slice oa ss.length cap] 30)) [.int .i64 a, .int .i64 b] 34).alloc (.cells #[.slice none 0 0] 30)
  have R3 := Row.new ((w.alloc (.cells #[.slice oa ss.length cap] 30)).alloc (.cells #[.int .i64 a, .int .i64 b] 34)) [.slice none 0 0] 30
  rw [World.size_alloc] at R2
  rw [World.size_alloc, World.size_alloc] at R3
  have C := Lib.hid (specItemAt_any ss hF.fits oa cap a b _ (hc.below hb0 (Nat.le_refl _)))
  have HB := Lib.hid hb0
  have HR1 := Lib.hid R1
  have HR2 := Lib.hid R2
  have HBX := Lib.hid R3
  have HC := Lib.hid hc
  have HF := Lib.hid hF
  have g1 := R1.cell (i := 0) (by rfl)
  have p0 := R2.cell (i := 0) (v := .int .i64 a) (by rfl)
  have p1 := R2.cell (i := 1) (v := .int .i64 b) (by rfl)
  clear hF hc hb0 R1 R2 R3
  go_enter Tryd.func70, Tryd.ntmps70
  go_wp2_with fail
  refine C.out.mono ?_
  rintro e w1 ⟨x, ok, rfl, hcase, hb⟩
  obtain ⟨wI, hwI⟩ : ∃ wI, wI = w1.alloc (.cells #[.int .i64 x.kind, .string x.name, .int .i64 x.scope] 65) := ⟨_, rfl⟩
  have hbI := hb.trans ((Below.refl w1.heap.size w1).alloc (Nat.le_refl _) (.cells #[.int .i64 x.kind, .string x.name, .int .i64 x.scope] 65) |>.mono hb.size)
  have RI := Row.new w1 [.int .i64 x.kind, .string x.name, .int .i64 x.scope] 65
  have k2 := RI.cell (i := 2) (v := .int .i64 x.scope) (by rfl)
  have a0 := (HR2.out.below hbI HR2.out.lt).cell (i := 0) (v := .int .i64 a) (by rfl)
  have g2 := (HR1.out.below hbI HR1.out.lt).cell (i := 0) (v := .slice oa ss.length cap) (by rfl)
  have hX1 := HBX.out.below hbI HBX.out.lt
  have n0 := hX1.cell (i := 0) (v := .slice none 0 0) (by rfl)
  have f0 := hX1.frozen 0
  have HB1 := Lib.hid (HB.out.trans (hbI.mono HB.out.size))
  have HG1 := Lib.hid (HR1.out.below hbI HR1.out.lt)
  have HP1 := Lib.hid (HR2.out.below hbI HR2.out.lt)
  have HX1 := Lib.hid hX1
  have HI1 := Lib.hid RI
  have HCS := Lib.hid hcase
  have HLE : Hid (w.heap.size + 3 ≤ w1.heap.size) := Lib.hid (by have h1 := HBX.out.lt; have h2 := hb.size; omega)
  clear hb hbI hcase RI hX1 g1 p0 p1 hwI
  unfold itV
  cases ok
  · have HN : Hid (¬ movOk ss a b n) := Lib.hid (by
      rintro ⟨hv, y, h1, _⟩
      rcases HCS.out with ⟨_, _, h⟩ | ⟨h, _⟩
      · cases h
      · exact h ⟨hv, by rw [h1]; rfl⟩)
    go_wp2
    have d0 := (HX1.out.set 0 (.slice none 0 0)).cell (i := 0) (v := .slice none 0 0) (by rfl)
    refine bodyPost_ret (v := .tuple #[.agg #[.slice none 0 0], .bool false]) (by simp [results, Tryd.results70, go_sem, d0]) rfl (.inl ⟨HN.out, rfl, ?_⟩)
    repeat (first | exact HB1.out | apply Below.drew | refine Below.setCell ?_ (by simp <;> omega) _)
  · obtain ⟨hv, hx⟩ : Valid ss ∧ itemAtP ss a b = some x := by
      rcases HCS.out with ⟨h1, h2, _⟩ | ⟨_, _, h⟩
      · exact ⟨h1, h2⟩
      · cases h
    have HV := Lib.hid (And.intro hv hx)
    obtain ⟨i, j, c, rfl, rfl, hci, hxj⟩ := item_where hx
    have hsg := item_scope hv hci hxj
    clear hv hx
    by_cases hsc : x.scope = -1
    case neg =>
      have hge : decide (0 ≤ x.scope) = true := by simp; omega
      have hge2 : decide (x.scope ≥ 0) = true := hge
      have HN : Hid (¬ movOk ss (i : Int) (j : Int) n) := Lib.hid (by
        rintro ⟨_, y, h1, h2, _⟩
        rw [HV.out.2] at h1
        obtain rfl := Option.some.inj h1
        exact hsc h2)
      clear hsc hsg hci hxj
      go_wp2
      have d0 := (HX1.out.set 0 (.slice none 0 0)).cell (i := 0) (v := .slice none 0 0) (by rfl)
      refine bodyPost_ret (v := .tuple #[.agg #[.slice none 0 0], .bool false]) (by simp [results, Tryd.results70, go_sem, d0]) rfl (.inl ⟨HN.out, rfl, ?_⟩)
      repeat (first | exact HB1.out | apply Below.drew | refine Below.setCell ?_ (by simp <;> omega) _)
    case pos =>
      have HSC := Lib.hid hsc
      have hge : decide (0 ≤ x.scope) = false := by simp; omega
      have hge2 : decide (x.scope ≥ 0) = false := hge
      clear hsg hsc
      by_cases han : (i : Int) = n
      case pos =>
        have hab : ((i : Int) == n) = true := by simpa using han
        have HN : Hid (¬ movOk ss (i : Int) (j : Int) n) := Lib.hid (fun h => by
          obtain ⟨_, y, h1, h2, h3, _⟩ := h
          exact h3 han)
        clear han hci hxj
        go_wp2
        have d0 := (HX1.out.set 0 (.slice none 0 0)).cell (i := 0) (v := .slice none 0 0) (by rfl)
        refine bodyPost_ret (v := .tuple #[.agg #[.slice none 0 0], .bool false]) (by simp [results, Tryd.results70, go_sem, d0]) rfl (.inl ⟨HN.out, rfl, ?_⟩)
        repeat (first | exact HB1.out | apply Below.drew | refine Below.setCell ?_ (by simp <;> omega) _)
      case neg =>
        have hab : ((i : Int) == n) = false := by simpa using han
        have HAN := Lib.hid han
        have C2 := Lib.hid (l7Room_any ss HF.out.fits oa cap n _ (HC.out.below HB1.out (Nat.le_refl _)))
        have HCI := Lib.hid (And.intro hci hxj)
        clear han hci hxj
        go_wp2_with fail
        refine C2.out.mono ?_
        rintro e w2 ⟨q, rfl, hq, hb2⟩
        have HB2 := Lib.hid (HB1.out.trans (hb2.mono HB1.out.size))
        have HG2 := Lib.hid (HG1.out.below hb2 HG1.out.lt)
        have HP2 := Lib.hid (HP1.out.below hb2 HP1.out.lt)
        have HX2 := Lib.hid (HX1.out.below hb2 HX1.out.lt)
        have HI2 := Lib.hid (HI1.out.below hb2 HI1.out.lt)
        have HQ := Lib.hid hq
        have n0 := HX2.out.cell (i := 0) (v := .slice none 0 0) (by rfl)
        have f0 := HX2.out.frozen 0
        clear hb2 hq k2 a0 g2
        cases q
        · have HN : Hid (¬ movOk ss (i : Int) (j : Int) n) := Lib.hid (fun h => by
            obtain ⟨_, y, h1, h2, h3, h4⟩ := h
            have := HQ.out.2 h4
            cases this)
          go_wp2
          have d0 := (HX2.out.set 0 (.slice none 0 0)).cell (i := 0) (v := .slice none 0 0) (by rfl)
          refine bodyPost_ret (v := .tuple #[.agg #[.slice none 0 0], .bool false]) (by simp [results, Tryd.results70, go_sem, d0]) rfl (.inl ⟨HN.out, rfl, ?_⟩)
          repeat (first | exact HB2.out | apply Below.drew | refine Below.setCell ?_ (by simp <;> omega) _)
        · obtain ⟨hv, k, d, rfl, hdk, hl5⟩ := HQ.out.1 rfl
          have hki : k ≠ i := fun e => HAN.out (by rw [e])
          obtain ⟨rr, hrr⟩ : ∃ rr, rmvP ss i j = rr := ⟨_, rfl⟩
          obtain ⟨tt, htt⟩ : ∃ tt, addP rr k x = tt := ⟨_, rfl⟩
          have HK : Hid (movOk ss (i : Int) (j : Int) (k : Int) ∧ movAt ss (i : Int) (j : Int) (k : Int) = tt) := Lib.hid ⟨⟨hv, x, HV.out.2, HSC.out, HAN.out, hv, k, d, rfl, hdk, hl5⟩, by unfold movAt; rw [HV.out.2, Int.toNat_natCast, Int.toNat_natCast, Int.toNat_natCast, hrr]; exact htt⟩
          have hrv : Valid rr := hrr ▸ Valid.rmv hv i j
          have hrk : rr[k]? = some d := by rw [← hrr]; exact (rmvP_other hki).trans hdk
          have C3 := specRemove_any ss HF.out.count (fun s hs => by have := hv.five s hs; omega) oa cap i j c x HCI.out.1 HCI.out.2 _ (HC.out.below HB2.out.drew (Nat.le_refl _))
          rw [hrr] at C3
          have D := Lib.hid ((callsIn_wide (n := 5)).2 C3)
          have HR := Lib.hid (And.intro hrv hrk)
          have HTT := Lib.hid htt
          have i2 := HI2.out
          rw [HSC.out] at i2
          have hS0 := And.intro (cell_drew (HG2.out.cell (i := 0) (v := .slice oa ss.length cap) (by rfl))) (And.intro (cell_drew (HP2.out.cell (i := 0) (v := .int .i64 (i : Int)) (by rfl))) (And.intro (cell_drew (HP2.out.cell (i := 1) (v := .int .i64 (j : Int)) (by rfl))) (And.intro (cell_drew (i2.cell (i := 0) (v := .int .i64 x.kind) (by rfl))) (And.intro (cell_drew (i2.cell (i := 1) (v := .string x.name) (by rfl))) (cell_drew (i2.cell (i := 2) (v := .int .i64 (-1)) (by rfl)))))))
          clear hv hdk hl5 hki hrr htt hrv hrk C3 i2
          go_wp2
          refine wp_region_kept (S := fun w' => w'.cell? ⟨w.heap.size, 0, none⟩ = some (.slice oa ss.length cap) ∧ w'.cell? ⟨w.heap.size + 1, 0, none⟩ = some (.int .i64 (i : Int)) ∧ w'.cell? ⟨w.heap.size + 1, 1, none⟩ = some (.int .i64 (j : Int)) ∧ w'.cell? ⟨w1.heap.size, 0, none⟩ = some (.int .i64 x.kind) ∧ w'.cell? ⟨w1.heap.size, 1, none⟩ = some (.string x.name) ∧ w'.cell? ⟨w1.heap.size, 2, none⟩ = some (.int .i64 (-1))) 7 (by kernel_rfl) ?_
          refine KeptAny.take (i := 0) (v := ?_) (by kernel_rfl) rfl rfl (by kernel_rfl) (by kernel_rfl) (by kernel_rfl) (fun _ _ _ h => h) (by rfl) (fun w' hw' => ?_) (fun _ => rfl) hS0 ?_
          rotate_left
          · (obtain ⟨g0, g1, g2, g3, g4, g5⟩ := hw'; go_simp; try with_reducible rfl)
          refine KeptAny.take (i := 1) (v := ?_) (by kernel_rfl) rfl rfl (by kernel_rfl) (by kernel_rfl) (by kernel_rfl) (fun _ _ _ h => h) (by rfl) (fun w' hw' => ?_) (fun _ => rfl) hS0 ?_
          rotate_left
          · (obtain ⟨g0, g1, g2, g3, g4, g5⟩ := hw'; go_simp; try with_reducible rfl)
          refine KeptAny.take (i := 3) (v := ?_) (by kernel_rfl) rfl rfl (by kernel_rfl) (by kernel_rfl) (by kernel_rfl) (fun _ _ _ h => h) (by rfl) (fun w' hw' => ?_) (fun _ => rfl) hS0 ?_
          rotate_left
          · (obtain ⟨g0, g1, g2, g3, g4, g5⟩ := hw'; go_simp; try with_reducible rfl)
          refine KeptAny.take (i := 4) (v := ?_) (by kernel_rfl) rfl rfl (by kernel_rfl) (by kernel_rfl) (by kernel_rfl) (fun _ _ _ h => h) (by rfl) (fun w' hw' => ?_) (fun _ => rfl) hS0 ?_
          rotate_left
          · (obtain ⟨g0, g1, g2, g3, g4, g5⟩ := hw'; go_simp; try with_reducible rfl)
          refine KeptAny.one (i := 2) (by kernel_rfl) rfl (by rfl) (fun K hK => ?_)
          go_simp
          refine ⟨trivial, ?_⟩
          refine D.out.mono ?_
          rintro e w3 ⟨v3, hs3, rfl, hO3, hb3⟩
          obtain ⟨o3, c3, rfl, hh3⟩ := hO3.holds
          have hb3' := ((Below.refl w2.heap.size w2).drew).trans hb3
          have HB3 := Lib.hid (HB2.out.trans (hb3'.mono HB2.out.size))
          have HX3 := Lib.hid (HX2.out.below hb3' HX2.out.lt)
          have hS3 := And.intro (cell_grow hb3 (hS0.1)) (And.intro (cell_grow hb3 (hS0.2.1)) (And.intro (cell_grow hb3 (hS0.2.2.1)) (And.intro (cell_grow hb3 (hS0.2.2.2.1)) (And.intro (cell_grow hb3 (hS0.2.2.2.2.1)) (cell_grow hb3 (hS0.2.2.2.2.2))))))
          have E := Lib.hid ((callsIn_wide (n := 5)).2 (by have h := l7Add_any rr (by have := HR.out.1.count; omega) (fun s hs => by have := HR.out.1.five s hs; omega) o3 c3 k d x HR.out.2 w3 hh3; rw [HTT.out, HSC.out] at h; exact h))
          refine hK.out _ _ hS3 (fun _ => ?_)
          clear hK hO3 hb3 hb3' hh3 hS0
          refine KeptAny.one (i := 5) (by kernel_rfl) rfl (by rfl) (fun K hK => ?_)
          go_simp
          refine ⟨trivial, ?_⟩
          refine E.out.mono ?_
          rintro e w5 ⟨v5, hs5, rfl, hO5, hb5⟩
          obtain ⟨o5, c5, rfl, -⟩ := hO5.holds
          have HB5 := Lib.hid (HB3.out.trans (hb5.mono HB3.out.size))
          have HX5 := Lib.hid (HX3.out.below hb5 HX3.out.lt)
          have hS5 := And.intro (cell_grow hb5 (hS3.1)) (And.intro (cell_grow hb5 (hS3.2.1)) (And.intro (cell_grow hb5 (hS3.2.2.1)) (And.intro (cell_grow hb5 (hS3.2.2.2.1)) (And.intro (cell_grow hb5 (hS3.2.2.2.2.1)) (cell_grow hb5 (hS3.2.2.2.2.2))))))
          have HO5 := Lib.hid hO5
          refine hK.out _ _ hS5 (fun _ => ?_)
          clear hK hO5 hb5 hS3
          have m0 := HX5.out.cell (i := 0) (v := .slice none 0 0) (by rfl)
          have l0 := HX5.out.frozen 0
          have hS6 := And.intro ((cell_far (show w.heap.size ≠ w.heap.size + 1 + 1 by omega) 0 (.slice o5 tt.length c5) (o := 0)).trans (hS5.1)) (And.intro ((cell_far (show w.heap.size + 1 ≠ w.heap.size + 1 + 1 by omega) 0 (.slice o5 tt.length c5) (o := 0)).trans (hS5.2.1)) (And.intro ((cell_far (show w.heap.size + 1 ≠ w.heap.size + 1 + 1 by omega) 0 (.slice o5 tt.length c5) (o := 1)).trans (hS5.2.2.1)) (And.intro ((cell_far (show w1.heap.size ≠ w.heap.size + 1 + 1 by have := HLE.out; omega) 0 (.slice o5 tt.length c5) (o := 0)).trans (hS5.2.2.2.1)) (And.intro ((cell_far (show w1.heap.size ≠ w.heap.size + 1 + 1 by have := HLE.out; omega) 0 (.slice o5 tt.length c5) (o := 1)).trans (hS5.2.2.2.2.1)) ((cell_far (show w1.heap.size ≠ w.heap.size + 1 + 1 by have := HLE.out; omega) 0 (.slice o5 tt.length c5) (o := 2)).trans (hS5.2.2.2.2.2))))))
          refine KeptAny.one (i := 6) (by kernel_rfl) rfl (by rfl) (fun K hK => ?_)
          go_simp
          refine hK.out _ _ hS6 (fun _ => ?_)
          clear hK hS5
          refine KeptAny.one (i := 7) (by kernel_rfl) rfl (by rfl) (fun K hK => ?_)
          go_simp
          refine hK.out _ _ hS6 (fun _ => ?_)
          clear hK
          refine KeptAny.done (by kernel_rfl) ?_ _
          go_wp2
          have d0 := (HX5.out.set 0 (.slice o5 tt.length c5)).cell (i := 0) (v := .slice o5 tt.length c5) (by rfl)
          refine bodyPost_ret (v := .tuple #[.agg #[.slice o5 tt.length c5], .bool true]) (by simp [results, Tryd.results70, go_sem, d0]) rfl (.inr ⟨HK.out.1, o5, c5, by rw [HK.out.2], ?_, ?_⟩)
          · rw [HK.out.2]
            exact (HO5.out.past HX5.out).holdsAt
          · repeat (first | exact HB5.out | apply Below.drew | refine Below.setCell ?_ (by simp <;> omega) _)
set_option maxRecDepth 100000 in
set_option maxHeartbeats 4000000 in
theorem specMoveItem_any (ss : List Sc) (hF : Fair ss) (oa : Option Addr) (cap : Nat) (a b n : Int) (w : World) (hc : HoldsScopes w oa ss) :
    Calls Tryd.prog 28 #[.agg #[.slice oa ss.length cap], .agg #[.int .i64 a, .int .i64 b], .int .i64 n] w (GrGot (movOk ss a b n) (movAt ss a b n) w) := by
  have hb0 : Below w.heap.size w (((w.alloc (.cells #[.slice oa ss.length cap] 30)).alloc (.cells #[.int .i64 a, .int .i64 b] 34)).alloc (.cells #[.slice none 0 0] 30)) := (((Below.refl _ _).alloc (Nat.le_refl _) _).alloc (by simp) _).alloc (by simp; omega) _
  have R1 := ((Row.new w [.slice oa ss.length cap] 30).alloc (.cells #[.int .i64 a, .int .i64 b] 34)).alloc (.cells #[.slice none 0 0] 30)
  have RP := (Row.new (w.alloc (.cells #[.slice oa ss.length cap] 30)) [.int .i64 a, .int .i64 b] 34).alloc (.cells #[.slice none 0 0] 30)
  have R3 := Row.new ((w.alloc (.cells #[.slice oa ss.length cap] 30)).alloc (.cells #[.int .i64 a, .int .i64 b] 34)) [.slice none 0 0] 30
  rw [World.size_alloc] at RP
  rw [World.size_alloc, World.size_alloc] at R3
  have p0 := RP.cell (i := 0) (v := .int .i64 a) (by rfl)
  have p1 := RP.cell (i := 1) (v := .int .i64 b) (by rfl)
  have C := Lib.hid (rawMoveItem_any ss hF oa cap a b n _ (hc.below hb0 (Nat.le_refl _)))
  have HB := Lib.hid hb0
  have HR3 := Lib.hid R3
  have HF := Lib.hid hF
  have g1 := R1.cell (i := 0) (by rfl)
  clear hF hc hb0 R1 R3 RP
  go_enter Tryd.func28, Tryd.ntmps28
  go_wp2_with fail
  refine C.out.mono ?_
  rintro e w1 (⟨hn, rfl, hb1⟩ | ⟨hh, ov, cv, rfl, hho, hb1⟩)
  · have hbx := hb1.trans ((Below.refl w1.heap.size w1).alloc (Nat.le_refl _) (.cells #[.slice none 0 0] 30) |>.mono hb1.size)
    have HB1 := Lib.hid (HB.out.trans (hbx.mono HB.out.size))
    have HR3a := Lib.hid (HR3.out.below hbx HR3.out.lt)
    have RX := (Row.new w1 [.slice none 0 0] 30).cell (i := 0) (by rfl)
    have HN := Lib.hid hn
    have C2 := Lib.hid (ownGraph_any [] none 0 (by simp) (fun s hs => by cases hs) (w1.alloc (.cells #[.slice none 0 0] 30)) (.inl rfl))
    clear hb1 hbx g1 hn p0 p1
    go_wp2_with fail
    refine C2.out.mono ?_
    rintro e w2 ⟨v, hs, rfl, hO, hb2⟩
    obtain ⟨ov2, cv2, rfl, -⟩ := hO.holds
    have HO := Lib.hid (hO.lower HB1.out.size)
    have HB2 := Lib.hid (HB1.out.trans (hb2.mono HB1.out.size))
    have HR3b := Lib.hid (HR3a.out.below hb2 HR3a.out.lt)
    have m0 := HR3b.out.cell (i := 0) (v := .slice none 0 0) (by rfl)
    have l0 := HR3b.out.frozen 0
    clear hO hb2 RX
    go_wp2
    have RT := HR3b.out.set 0 (.slice ov2 ([] : List Sc).length cv2)
    have d0 := RT.cell (i := 0) (v := .slice ov2 ([] : List Sc).length cv2) (by rfl)
    refine bodyPost_ret (v := .tuple #[.agg #[.slice ov2 ([] : List Sc).length cv2], .bool false]) (by simp [results, Tryd.results28, go_sem] at d0 ⊢; simp [d0]) rfl (.inl ⟨HN.out, _, hs, rfl, HO.out.past HR3b.out, HB2.out.setCell (by simp; try omega) _⟩)
  · have hbx := hb1.trans ((Below.refl w1.heap.size w1).alloc (Nat.le_refl _) (.cells #[.slice ov (movAt ss a b n).length cv] 30) |>.mono hb1.size)
    have HB1 := Lib.hid (HB.out.trans (hbx.mono HB.out.size))
    have HR3a := Lib.hid (HR3.out.below hbx HR3.out.lt)
    have RX := (Row.new w1 [.slice ov (movAt ss a b n).length cv] 30).cell (i := 0) (by rfl)
    have HN := Lib.hid hh
    have C2 := Lib.hid (ownGraph_any (movAt ss a b n) ov cv (by have := (movOk.valid hh).count; omega) (fun s hs => by have := (movOk.valid hh).five s hs; omega) (w1.alloc (.cells #[.slice ov (movAt ss a b n).length cv] 30)) (hho.below ((Below.refl _ _).alloc (Nat.le_refl _) _) (Nat.le_refl _)))
    clear hb1 hbx g1 hh hho p0 p1
    go_wp2_with fail
    refine C2.out.mono ?_
    rintro e w2 ⟨v, hs, rfl, hO, hb2⟩
    obtain ⟨ov2, cv2, rfl, -⟩ := hO.holds
    have HO := Lib.hid (hO.lower HB1.out.size)
    have HB2 := Lib.hid (HB1.out.trans (hb2.mono HB1.out.size))
    have HR3b := Lib.hid (HR3a.out.below hb2 HR3a.out.lt)
    have m0 := HR3b.out.cell (i := 0) (v := .slice none 0 0) (by rfl)
    have l0 := HR3b.out.frozen 0
    clear hO hb2 RX
    go_wp2
    have RT := HR3b.out.set 0 (.slice ov2 (movAt ss a b n).length cv2)
    have d0 := RT.cell (i := 0) (v := .slice ov2 (movAt ss a b n).length cv2) (by rfl)
    refine bodyPost_ret (v := .tuple #[.agg #[.slice ov2 (movAt ss a b n).length cv2], .bool true]) (by simp [results, Tryd.results28, go_sem] at d0 ⊢; simp [d0]) rfl (.inr ⟨HN.out, _, hs, rfl, HO.out.past HR3b.out, HB2.out.setCell (by simp; try omega) _⟩)
set_option maxRecDepth 100000 in
set_option maxHeartbeats 4000000 in
theorem implMoveItem_any (ss : List Sc) (hF : Fair ss) (oa : Option Addr) (cap : Nat) (a b n : Int) (ha : (Lit.int .i64 a).wf = true) (hb' : (Lit.int .i64 b).wf = true) (w : World) (hc : HoldsScopes w oa ss) (hE : MoveErrs w) :
    Calls Tryd.prog 29 #[.agg #[.slice oa ss.length cap], .agg #[.int .i64 a, .int .i64 b], .int .i64 n] w (GrGot (movOk ss a b n) (movAt ss a b n) w) := by
  have hb0 : Below w.heap.size w (((w.alloc (.cells #[.slice oa ss.length cap] 30)).alloc (.cells #[.int .i64 a, .int .i64 b] 34)).alloc (.cells #[.slice none 0 0] 30)) := (((Below.refl _ _).alloc (Nat.le_refl _) _).alloc (by simp) _).alloc (by simp; omega) _
  have R1 := ((Row.new w [.slice oa ss.length cap] 30).alloc (.cells #[.int .i64 a, .int .i64 b] 34)).alloc (.cells #[.slice none 0 0] 30)
  have R2 := (Row.new (w.alloc (.cells #[.slice oa ss.length cap] 30)) [.int .i64 a, .int .i64 b] 34).alloc (.cells #[.slice none 0 0] 30)
  have R3 := Row.new ((w.alloc (.cells #[.slice oa ss.length cap] 30)).alloc (.cells #[.int .i64 a, .int .i64 b] 34)) [.slice none 0 0] 30
  rw [World.size_alloc] at R2
  rw [World.size_alloc, World.size_alloc] at R3
  have C := Lib.hid (moving_any ss hF oa cap a b n ha hb' _ (hc.below hb0 (Nat.le_refl _)) (hE.at hb0))
  have HB := Lib.hid hb0
  have HBX := Lib.hid R3
  have g1 := R1.cell (i := 0) (by rfl)
  have k0 := R2.cell (i := 0) (v := .int .i64 a) (by rfl)
  have k1 := R2.cell (i := 1) (v := .int .i64 b) (by rfl)
  clear hF hc hE hb0 R1 R2 R3
  go_enter Tryd.func29, Tryd.ntmps29
  go_wp2_with fail
  refine C.out.mono ?_
  rintro e w1 (⟨hn, ⟨tp, p, rfl⟩, hb⟩ | ⟨hok, v, hs, rfl, hO, hb⟩)
  · have HN : Hid (¬ movOk ss a b n) := Lib.hid hn
    have HO := Lib.hid (OwnGr.nil w w.heap.size)
    clear hn k0 k1
    have hbx := hb.trans ((((Below.refl w1.heap.size w1).alloc (Nat.le_refl _) (.cells #[.slice none 0 0] 30)).alloc (by simp) (.cells #[.int .i64 0, .int .i64 0] 34)).mono hb.size)
    have HB1 := Lib.hid (HB.out.trans (hbx.mono HB.out.size))
    have RA := (Row.new w1 [.slice none 0 0] 30).alloc (.cells #[.int .i64 0, .int .i64 0] 34)
    have RP := Row.new (w1.alloc (.cells #[.slice none 0 0] 30)) [.int .i64 0, .int .i64 0] 34
    rw [World.size_alloc] at RP
    have a0 := RA.cell (i := 0) (v := .slice none 0 0) (by rfl)
    have b0 := RP.cell (i := 0) (v := .int .i64 0) (by rfl)
    have b1 := RP.cell (i := 1) (v := .int .i64 0) (by rfl)
    have hsep : w1.heap.size + 1 ≠ w.heap.size + 1 + 1 := by have h1 := HBX.out.lt; have h2 := hb.size; omega
    have b0' := (cell_far hsep 0 (.slice none 0 0) (o := 0)).trans b0
    have b1' := (cell_far hsep 0 (.slice none 0 0) (o := 1)).trans b1
    have HX1 := Lib.hid (HBX.out.below hbx HBX.out.lt)
    have n0 := HX1.out.cell (i := 0) (v := .slice none 0 0) (by rfl)
    have f0 := HX1.out.frozen 0
    clear hb hbx RA RP g1 hsep
    go_wp2
    go_region
    all_goals go_wp2
    all_goals (
      refine bodyPost_ret (v := .tuple #[.agg #[.slice none 0 0], .bool false]) ?_ rfl (.inl ⟨HN.out, _, [], rfl, ?_, ?_⟩)
      · have d0 := (HX1.out.set 0 (.slice none 0 0)).cell (i := 0) (v := .slice none 0 0) (by rfl)
        first | (simp [results, Tryd.results29, go_sem, d0]; done) | (simp [results, Tryd.results29, go_sem]; done)
      · repeat (first | exact OwnGr.nil _ _ | refine OwnGr.drew ?_ | exact HO.out.past HX1.out)
      · repeat (first | exact HB1.out | apply Below.drew | refine Below.setCell ?_ (by simp <;> omega) _))
  · obtain ⟨l, hl⟩ : ∃ l, movAt ss a b n = l := ⟨_, rfl⟩
    rw [hl] at hO
    obtain ⟨ov, cv, rfl, -⟩ := hO.holds
    obtain ⟨z, hz⟩ : ∃ z : Int, endAt ss n = z := ⟨_, rfl⟩
    have HK := Lib.hid (And.intro hok hl)
    rw [hz]
    have hbN := ((Below.refl w1.heap.size w1).alloc (Nat.le_refl _) (.cells #[.slice ov l.length cv] 30)).alloc (by simp) (.cells #[.int .i64 n, .int .i64 z] 34)
    have HO := Lib.hid ((hO.below hbN).lower HB.out.size)
    clear hok hz hO hbN hl k0 k1
    have hbx := hb.trans ((((Below.refl w1.heap.size w1).alloc (Nat.le_refl _) (.cells #[.slice ov l.length cv] 30)).alloc (by simp) (.cells #[.int .i64 n, .int .i64 z] 34)).mono hb.size)
    have HB1 := Lib.hid (HB.out.trans (hbx.mono HB.out.size))
    have RA := (Row.new w1 [.slice ov l.length cv] 30).alloc (.cells #[.int .i64 n, .int .i64 z] 34)
    have RP := Row.new (w1.alloc (.cells #[.slice ov l.length cv] 30)) [.int .i64 n, .int .i64 z] 34
    rw [World.size_alloc] at RP
    have a0 := RA.cell (i := 0) (v := .slice ov l.length cv) (by rfl)
    have b0 := RP.cell (i := 0) (v := .int .i64 n) (by rfl)
    have b1 := RP.cell (i := 1) (v := .int .i64 z) (by rfl)
    have hsep : w1.heap.size + 1 ≠ w.heap.size + 1 + 1 := by have h1 := HBX.out.lt; have h2 := hb.size; omega
    have b0' := (cell_far hsep 0 (.slice ov l.length cv) (o := 0)).trans b0
    have b1' := (cell_far hsep 0 (.slice ov l.length cv) (o := 1)).trans b1
    have HX1 := Lib.hid (HBX.out.below hbx HBX.out.lt)
    have n0 := HX1.out.cell (i := 0) (v := .slice none 0 0) (by rfl)
    have f0 := HX1.out.frozen 0
    clear hb hbx RA RP g1 hsep
    go_wp2
    go_region
    all_goals go_wp2
    all_goals (
      refine bodyPost_ret (v := .tuple #[.agg #[.slice ov l.length cv], .bool true]) ?_ rfl (.inr ⟨HK.out.1, _, hs, rfl, ?_, ?_⟩)
      · have d0 := (HX1.out.set 0 (.slice ov l.length cv)).cell (i := 0) (v := .slice ov l.length cv) (by rfl)
        first | (simp [results, Tryd.results29, go_sem, d0]; done) | (simp [results, Tryd.results29, go_sem]; done)
      · rw [HK.out.2]; repeat (first | exact HO.out | refine OwnGr.drew ?_ | exact HO.out.past HX1.out)
      · repeat (first | exact HB1.out | apply Below.drew | refine Below.setCell ?_ (by simp <;> omega) _))
end Go.Proofs.YtadpgoiiopfnnaaDoor
