/-
  The walks of the given DrawFormatPlaces, DrawParsePlace and DrawItemAt: a short list of places; a short text; a small graph and a place. Condition: the code's memory holds bytes.
-/
import Derived.Test.YtjogfagjcpcihaaGreatDoorWDraws2X
namespace Go.Proofs.YtjogfagjcpcihaaGreatDoor
open Go Go.RowKit Sg
def DrawnPs (w : World) (e : Ending) (w' : World) : Prop := ∃ (ps : List (Int × Int)) (oa : Option Addr) (cap : Nat), e = .returned (.slice oa ps.length cap) ∧ ArgPlaces w' oa ps ∧ ps.length ≤ 10 ∧ (∀ p ∈ ps, (0 ≤ p.1 ∧ p.1 < 100) ∧ 0 ≤ p.2 ∧ p.2 < 100) ∧ Below w.heap.size w w'
structure PlRd (w1 wr : World) (r : Nat) (oa : Option Addr) (len cap P : Nat) (v : Value) (ps : List (Int × Int)) : Prop where
  rd : RdAt w1 wr r oa len cap P
  row : wr.ownsRow w1.heap.size 26 2 v ps.length (placeCells ps)
  all : ∀ p ∈ ps, (0 ≤ p.1 ∧ p.1 < 100) ∧ 0 ≤ p.2 ∧ p.2 < 100
set_option maxRecDepth 100000 in
set_option maxHeartbeats 4000000 in
theorem drawPlaces_any {w : World} {oa : Option Addr} {len cap : Nat} (h : HoldsBytes w oa len) (hl : len ≤ 2 ^ 62) (hlc : len ≤ cap) : Calls Tryz.prog 6 #[.slice oa len cap] w (DrawnPs w) := by
  have C := Lib.hid (open_any h hl hlc)
  clear h hl hlc
  go_enter Tryz.func6, Tryz.ntmps6
  go_wp2_with fail
  refine C.out.mono ?_
  rintro e w1 ⟨r, ob, n, c, rfl, hr, hrd, hb1⟩
  have HB1 := Lib.hid hb1
  have HR := Lib.hid hr
  have hbN := (Below.refl w1.heap.size w1).alloc (Nat.le_refl _) (.cells #[] 26)
  have AT := Lib.hid ((RdAt.start hrd (Nat.le_refl 0) (by omega)).step hbN)
  have C2 := Lib.hid (pick_any (hrd.below hbN) (by omega) 4 (by decide))
  have ROW := Lib.hid (World.ownsRow_made (base := w1.heap.size) (e := 26) (size := 2) w1 #[] 0 (by simp) (by unfold maxLen; omega) rfl)
  clear hr hrd hb1 hbN
  go_wp2_with fail
  refine C2.out.mono ?_
  rintro e w2 ⟨z, rfl, -, hz, hr2⟩
  have hz5 : z < 4 := by have := hz (by decide); omega
  have HW0 : Hid (PlRd w1 w2 r ob n c (0 + 1) (.slice (some ⟨w1.heap.size, 0, none⟩) 0 0) []) := Lib.hid
    ⟨AT.out.asked (Nat.le_refl 0) hr2 (by omega), ownsRow_asked ROW.out hr2.turns AT.out.lt, fun x hx => by cases hx⟩
  clear hz hr2
  go_wp2
  go_loopw [4, 10] (fun v i wr => ∃ (k : Nat) (ps : List (Int × Int)), i = .int .i64 k ∧ k ≤ z ∧ ps.length = k ∧ Hid (PlRd w1 wr r ob n c (0 + 1 + 2 * k) v ps)) (fun _ i _ => z - (intOf i).toNat)
  case atStart => exact ⟨0, [], rfl, Nat.zero_le _, rfl, HW0⟩
  case round =>
    obtain ⟨k, ps, rfl, hk, hnk, HW⟩ := hrel
    by_cases hlt : k < z
    · obtain ⟨q, hq, hrd⟩ := HW.out.rd.rd
      have C3 := Lib.hid (pick_any hrd (by omega) 6 (by decide))
      have HQ := Lib.hid hq
      clear hq hrd
      go_wp2_with fail
      refine C3.out.mono ?_
      rintro e w3 ⟨y, rfl, -, hy, hr3⟩
      have hy6 : y < 6 := by have := hy (by decide); omega
      have AT3 := Lib.hid (HW.out.rd.asked HQ.out hr3 (by omega))
      have ROW3 := Lib.hid (ownsRow_asked (r := r) HW.out.row hr3.turns (by have := AT.out.lt; omega))
      obtain ⟨q3, hq3, hrd3⟩ := AT3.out.rd
      have C4 := Lib.hid (num_new hrd3 (by omega) [0, 1, 4, 12] (by decide) (by decide))
      have HQ3 := Lib.hid hq3
      clear hy hr3 hq3 hrd3
      go_wp2_with fail
      refine C4.out.mono ?_
      rintro e w4 ⟨x, hx, rfl, hr4⟩
      have HX : Hid (0 ≤ x ∧ x < 100) := Lib.hid (by
        simp only [List.mem_cons, List.not_mem_nil, or_false] at hx
        omega)
      have AT4 := Lib.hid (AT3.out.asked HQ3.out hr4 (by omega))
      have hrow4 := ownsRow_asked (r := r) ROW3.out hr4.turns (by have := AT.out.lt; omega)
      obtain ⟨v', w', hrun, hown', hgrow⟩ := append_placeD hrow4 (y : Int) x (by omega) (by have := AT4.out.turns.size; omega) 23
      have HRUN := Lib.hid hrun
      have HW5 : Hid (PlRd w1 w' r ob n c (0 + 1 + 2 * (k + 1)) v' (ps ++ [((y : Int), x)])) := Lib.hid
        ⟨(AT4.out.far (below_append2 hrow4 hgrow (Nat.le_refl _) AT4.out.turns.size)).more (by omega) (by omega), by rw [List.length_append, placeCells_snoc]; exact hown', fun p hp => by
          rcases List.mem_append.1 hp with h | h
          · exact HW.out.all p h
          · rw [List.mem_singleton.1 h]; exact ⟨⟨by show (0 : Int) ≤ (y : Int); omega, by show (y : Int) < 100; omega⟩, HX.out⟩⟩
      clear hx hr4 hrow4 hrun hown' hgrow
      go_wp2_with (at_builtin; refine wpList_append_run rfl _ _ 23 rfl HRUN.out ?_)
      go_wp2
      go_roundw
      case rel => exact ⟨k + 1, ps ++ [((y : Int), x)], by go_num, by omega, by simp [hnk], HW5⟩
      case measure => simp only [intOf]; omega
    · obtain ⟨o3, c3, rfl, h3⟩ := argPlaces_of_owns HW.out.row
      have H3 := Lib.hid h3
      have HB := Lib.hid (HB1.out.trans (HW.out.rd.turns.below HR.out HR.out HB1.out.size))
      clear h3
      go_wp2
      go_ret
      exact ⟨ps, o3, c3, rfl, H3.out, by omega, HW.out.all, HB.out⟩
set_option maxRecDepth 100000 in
set_option maxHeartbeats 4000000 in
theorem drawParse_any {w : World} {oa : Option Addr} {len cap : Nat} (h : HoldsBytes w oa len) (hl : len ≤ 2 ^ 62) (hlc : len ≤ cap) : Calls Tryz.prog 9 #[.slice oa len cap] w fun e w' => ∃ T : ByteArray, e = .returned (.string T) ∧ T.size ≤ 10 ∧ Below w.heap.size w w' := by
  have C := Lib.hid (open_any h hl hlc)
  clear h hl hlc
  go_enter Tryz.func9, Tryz.ntmps9
  go_wp2_with fail
  refine C.out.mono ?_
  rintro e w1 ⟨r, ob, n, c, rfl, hr, hrd, hb1⟩
  have C3 := Lib.hid (of_new hrd (by omega) [⟨#[48, 46, 48]⟩, ⟨#[49, 46, 50]⟩, ⟨#[49, 50, 46, 51]⟩, ⟨#[]⟩, ⟨#[49]⟩, ⟨#[49, 46, 50, 46, 51]⟩, ⟨#[46]⟩, ⟨#[97, 46, 49]⟩, ⟨#[48, 49, 46, 50]⟩, ⟨#[49, 46, 45, 49]⟩, ⟨#[48, 46, 48, 48]⟩] (by decide) (by decide))
  have HB1 := Lib.hid hb1
  have HR := Lib.hid hr
  clear hrd hb1 hr
  go_wp2_with fail
  refine C3.out.mono ?_
  rintro e w4 ⟨T, hT, rfl, hl4⟩
  have HT : Hid (T.size ≤ 10) := Lib.hid (by
    simp only [List.mem_cons, List.not_mem_nil, or_false] at hT
    rcases hT with rfl | rfl | rfl | rfl | rfl | rfl | rfl | rfl | rfl | rfl | rfl <;> decide)
  have HB4 := Lib.hid (HB1.out.trans (hl4.turns.below HR.out HR.out HB1.out.size))
  clear hT hl4
  go_wp2
  go_ret
  exact ⟨T, rfl, HT.out, HB4.out⟩
set_option maxRecDepth 100000 in
set_option maxHeartbeats 8000000 in
theorem drawItemAt_any {w : World} {oa : Option Addr} {len cap : Nat} (h : HoldsBytes w oa len) (hl : len ≤ 2 ^ 62) (hlc : len ≤ cap) : Calls Tryz.prog 11 #[.slice oa len cap] w (DrawnP w) := by
  have hbA : Below w.heap.size w ((w.alloc (.cells #[.slice none 0 0] 33)).alloc (.cells #[.int .i64 0, .int .i64 0] 26)) := ((Below.refl _ _).alloc (Nat.le_refl _) _).alloc (by simp) _
  have RA := Lib.hid ((Row.new w [.slice none 0 0] 33).alloc (.cells #[.int .i64 0, .int .i64 0] 26))
  have hRB := Row.new (w.alloc (.cells #[.slice none 0 0] 33)) [.int .i64 0, .int .i64 0] 26
  rw [World.size_alloc] at hRB
  have RB := Lib.hid hRB
  have C := Lib.hid (open_any (h.below hbA) hl hlc)
  have HBA := Lib.hid hbA
  clear h hbA hl hlc hRB
  go_enter Tryz.func11, Tryz.ntmps11
  go_wp2_with fail
  refine C.out.mono ?_
  rintro e w1 ⟨r, ob, n, c, rfl, hr, hrd, hb1⟩
  have HBR := Lib.hid (HBA.out.trans (hb1.mono HBA.out.size))
  have R1 := Lib.hid (RA.out.below hb1 RA.out.lt)
  have R1b := Lib.hid (RB.out.below hb1 RB.out.lt)
  have C2 := Lib.hid (some_any hrd (by omega))
  have HRR := Lib.hid (show w.heap.size + 1 < r by simp at hr; omega)
  have HRL := Lib.hid hrd.box.lt
  clear hr hrd hb1
  go_wp2_with fail
  refine C2.out.mono ?_
  rintro e w2 ⟨ss, v, hs, rfl, hg, hl, hr2⟩
  obtain ⟨ov, cv, rfl, hh⟩ := hg.holds
  have hbB := (Below.refl w2.heap.size w2).alloc (Nat.le_refl _) (.cells #[.slice ov ss.length cv] 33)
  have HA : Hid (SmP w w1 (w2.alloc (.cells #[.slice ov ss.length cv] 33)) r ob n c (0 + 210) w2.heap.size (.slice ov ss.length cv) ss hs) := Lib.hid
    ⟨hr2.step hbB, (R1.out.asked hr2.turns (by have := HRR.out; omega)).alloc _, (R1b.out.asked hr2.turns (by have := HRR.out; omega)).alloc _, Row.new w2 _ _, by have h1 := HBR.out.size; have h2 := hr2.turns.size; have h3 := R1b.out.lt; omega, (hg.lower HBR.out.size).below hbB, HRR.out, HRL.out⟩
  have HLL := Lib.hid hl
  clear hg hl hr2 hbB hh
  go_upto_region 3 with (fail)
  refine wp_region_kept (S := fun w' => w'.cell? ⟨w2.heap.size, 0, none⟩ = some (.slice ov ss.length cv)) 20 (by kernel_rfl) ?_
  have HI0 := Lib.hid (HA.out.step ((Below.refl _ _).drew))
  have hS0 := HI0.out.t4.cell (i := 0) (v := .slice ov ss.length cv) (by rfl)
  refine KeptAny.take (i := 0) (v := ?_) (by kernel_rfl) rfl rfl (by kernel_rfl) (by kernel_rfl) (by kernel_rfl) (fun _ _ _ h => h) (by rfl) (fun w' hw' => ?_) (fun _ => rfl) hS0 ?_
  rotate_left
  · (go_simp; try with_reducible rfl)
  refine KeptAny.take (i := 1) (v := ?_) (by kernel_rfl) rfl rfl (by kernel_rfl) (by kernel_rfl) (by kernel_rfl) (fun _ _ _ h => h) (by rfl) (fun w' hw' => ?_) (fun _ => rfl) hS0 ?_
  rotate_left
  · (go_simp; try with_reducible rfl)
  refine KeptAny.take (i := 2) (v := ?_) (by kernel_rfl) rfl rfl (by kernel_rfl) (by kernel_rfl) (by kernel_rfl) (fun _ _ _ h => h) (by rfl) (fun w' hw' => ?_) (fun _ => rfl) hS0 ?_
  rotate_left
  · (go_simp; try with_reducible rfl)
  clear hS0
  refine KeptAny.one (i := 3) (by kernel_rfl) rfl (by rfl) (fun K hK => ?_)
  go_simp
  refine ⟨trivial, ?_⟩
  obtain ⟨q5, hq5, hrd5⟩ := HI0.out.rd.rd
  obtain ⟨oq, cq, heq, hhq⟩ := HI0.out.gr.holds
  cases heq
  have hC := (callsIn_wide (n := 5)).2 (place1_any hrd5 (by omega) HLL.out (cv := cv) hhq)
  refine hC.mono ?_
  clear hC hrd5 hhq
  rintro e w5 ⟨x, y, rfl, hx, hy, hr5⟩
  have HI5 := Lib.hid (HI0.out.askedAt hr5)
  have HXY := Lib.hid (And.intro hx hy)
  clear hr5 hx hy
  refine hK.out _ _ (HI5.out.t4.cell (i := 0) (v := .slice ov ss.length cv) (by rfl)) (fun _ => ?_)
  clear hK
  have t2 := HI5.out.t2.cell (i := 0) (v := .slice none 0 0) (by rfl)
  have f2 := HI5.out.t2.frozen 0
  have R3a := HI5.out.t3.other (a := ⟨w.heap.size, 0, none⟩) (by simp) (.slice ov ss.length cv)
  have t30 := R3a.cell (i := 0) (v := .int .i64 0) (by rfl)
  have t31 := R3a.cell (i := 1) (v := .int .i64 0) (by rfl)
  have f3 : ∀ k, (w5.setCell ⟨w.heap.size, 0, none⟩ (.slice ov ss.length cv)).frozen? ⟨w.heap.size + 1, k, none⟩ = false := fun k => R3a.frozen k
  have R3b := (R3a.set 0 (.int .i64 x)).set 1 (.int .i64 y)
  have d30 := R3b.cell (i := 0) (v := .int .i64 x) (by rfl)
  have d31 := R3b.cell (i := 1) (v := .int .i64 y) (by rfl)
  have R2b := ((HI5.out.t2.set 0 (.slice ov ss.length cv)).other (a := ⟨w.heap.size + 1, 0, none⟩) (by simp) (.int .i64 x)).other (a := ⟨w.heap.size + 1, 1, none⟩) (by simp) (.int .i64 y)
  have d2 := R2b.cell (i := 0) (v := .slice ov ss.length cv) (by rfl)
  have R4a := HI5.out.t4.other (a := ⟨w.heap.size, 0, none⟩) (show w.heap.size ≠ w2.heap.size by have := HI5.out.low; omega) (.slice ov ss.length cv)
  have d4 := R4a.cell (i := 0) (v := .slice ov ss.length cv) (by rfl)
  have R4b := (R4a.other (a := ⟨w.heap.size + 1, 0, none⟩) (show w.heap.size + 1 ≠ w2.heap.size by have := HI5.out.low; omega) (.int .i64 x)).other (a := ⟨w.heap.size + 1, 1, none⟩) (show w.heap.size + 1 ≠ w2.heap.size by have := HI5.out.low; omega) (.int .i64 y)
  have d4b := R4b.cell (i := 0) (v := .slice ov ss.length cv) (by rfl)
  have HG5 := Lib.hid (((HI5.out.gr.other HI5.out.t2 (by decide) (by decide) 0 (.slice ov ss.length cv)).other R3a (by decide) (by decide) 0 (.int .i64 x)).other (R3a.set 0 (.int .i64 x)) (by decide) (by decide) 1 (.int .i64 y))
  have HE5 := Lib.hid ((((HBR.out.trans (HI5.out.rd.turns.below (by have := HRR.out; omega) (by have := HRR.out; omega) HBR.out.size)).setCell (p := ⟨w.heap.size, 0, none⟩) (Nat.le_refl _) (.slice ov ss.length cv)).setCell (p := ⟨w.heap.size + 1, 0, none⟩) (by simp) (.int .i64 x)).setCell (p := ⟨w.heap.size + 1, 1, none⟩) (by simp) (.int .i64 y))
  clear R3a R3b R2b R4a R4b
  refine KeptAny.one (i := 4) (by kernel_rfl) rfl (by rfl) (fun K hK => ?_)
  go_simp
  refine hK.out _ _ d4 (fun _ => ?_)
  clear hK f2 t2
  refine KeptAny.one (i := 5) (by kernel_rfl) rfl (by rfl) (fun K hK => ?_)
  go_simp
  refine hK.out _ _ d4b (fun _ => ?_)
  clear hK f3 t30 t31 d4 d4b
  refine KeptAny.done (by kernel_rfl) ?_ _
  go_wp2
  obtain ⟨oe, ce, he, hH⟩ := HG5.out.holds
  cases he
  exact bodyPost_ret (v := .tuple #[.agg #[.slice ov ss.length cv], .agg #[.int .i64 x, .int .i64 y]]) (by simp [results, Tryz.results11, go_sem, d2, d30, d31]) rfl ⟨ss, _, _, x, y, rfl, hH, HLL.out, HXY.out.1, HXY.out.2, HE5.out⟩
end Go.Proofs.YtjogfagjcpcihaaGreatDoor
