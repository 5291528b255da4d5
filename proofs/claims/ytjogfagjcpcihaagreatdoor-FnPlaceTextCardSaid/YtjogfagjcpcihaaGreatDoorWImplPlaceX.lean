/-
  The walks of impl.readPlace and impl.ParsePlace: at every text of at most 2^20 bytes they answer the place that the text tells, or that it tells none; only new memory is written. Condition: the package-level variables hold what their initialisers lay.
-/
import Derived.Test.YtjogfagjcpcihaaGreatDoorWReadX
import Derived.Test.YtjogfagjcpcihaaGreatDoorJAX
import Derived.BigRegion
namespace Go.Proofs.YtjogfagjcpcihaaGreatDoor
open Go Go.RowKit Sg
theorem canon_no_dot {l : List UInt8} (h : canonB l = true) : (46 : UInt8) ∉ l := by
  obtain ⟨_, _, _, h4⟩ := canonB_iff.1 h
  intro hm
  have := List.all_eq_true.1 h4 46 hm
  simp [isDig] at this
/-- Two cells that were stored, behind a new block. -/
theorem set2_cells {w1 : World} {h : Nat} {x y x0 y0 : Value} (hz : h < w1.heap.size) (hc0 : w1.cell? ⟨h, 0, none⟩ = some x0) (hc1 : w1.cell? ⟨h, 1, none⟩ = some y0) (o : Obj) :
    (((w1.setCell ⟨h, 0, none⟩ x).setCell ⟨h, 1, none⟩ y).alloc o).cell? ⟨h, 0, none⟩ = some x ∧ (((w1.setCell ⟨h, 0, none⟩ x).setCell ⟨h, 1, none⟩ y).alloc o).cell? ⟨h, 1, none⟩ = some y := by
  have hb := (Below.refl ((w1.setCell ⟨h, 0, none⟩ x).setCell ⟨h, 1, none⟩ y).heap.size ((w1.setCell ⟨h, 0, none⟩ x).setCell ⟨h, 1, none⟩ y)).alloc (Nat.le_refl _) o
  have hs : h < ((w1.setCell ⟨h, 0, none⟩ x).setCell ⟨h, 1, none⟩ y).heap.size := by simpa [World.setCell] using hz
  constructor
  · rw [hb.cell (p := ⟨h, 0, none⟩) hs]; simp [go_sem, hc0]
  · rw [hb.cell (p := ⟨h, 1, none⟩) hs]; simp [go_sem, hc1]
/-- The place that a text tells, by its first dot. -/
theorem place_cut (l : List UInt8) : placeOf l = if canonB (Lib.cut l [46]).1 && canonB (Lib.cut l [46]).2.1 then (true, (valF 0 (Lib.cut l [46]).1 : Int), (valF 0 (Lib.cut l [46]).2.1 : Int)) else (false, 0, 0) := by
  rcases first_c 46 l with h | ⟨a, r, rfl, h⟩
  · rw [cut_none h]
    have : canonB [] = false := rfl
    simp only [this, Bool.and_false, Bool.false_eq_true, if_false]
    exact place_not (parts_none h) (by simp)
  · rw [cut_hit h]
    simp only
    by_cases hr : (46 : UInt8) ∈ r
    · have hc : canonB r = false := by
        by_cases hc : canonB r = true
        · exact absurd hr (canon_no_dot hc)
        · simpa using hc
      rw [hc, Bool.and_false, if_neg (by simp)]
      rcases first_c 46 r with h2 | ⟨b, t, rfl, h2⟩
      · exact absurd hr h2
      · refine place_not (parts_app h) ?_
        rw [parts_app h2]
        have := parts_ne 46 t
        cases ht : parts 46 t with
        | nil => exact absurd ht this
        | cons x y => simp
    · exact place_two (by rw [parts_app h, parts_none hr])
/-- What strings.Cut needs. -/
def CutGlobs (w : World) : Prop := ∃ m : Int, w.cell? ⟨11, 0, none⟩ = some (.int .i64 m)
theorem CutGlobs.below {w w' : World} {B : Nat} (h : CutGlobs w) (hb : Below B w w') (hB : 17 ≤ B) : CutGlobs w' := by
  obtain ⟨m, h⟩ := h
  exact ⟨m, (hb.cell (p := ⟨11, 0, none⟩) (by show 11 < B; omega)).trans h⟩
theorem cut_dot (s : ByteArray) (w : World) (hs : s.size ≤ 1048576) (hg : CutGlobs w) :
    Calls Tryz.prog 83 #[.string s, .string ⟨#[46]⟩] w fun e w' => e = .returned (.tuple #[.string ⟨(Lib.cut s.data.toList [46]).1.toArray⟩, .string ⟨(Lib.cut s.data.toList [46]).2.1.toArray⟩, .bool (Lib.cut s.data.toList [46]).2.2]) ∧ Below w.heap.size w w' := by
  obtain ⟨m, hm⟩ := hg
  refine (Tryz.strings_Cut s ⟨#[46]⟩ m w (by omega) hm).mono ?_
  rintro e w' ⟨rfl, n, rfl⟩
  exact ⟨rfl, below_drewN (Below.refl _ _) _⟩
theorem read_ok_l (p : List UInt8) (w : World) (hg : NumGlobs w) (hc : canonB p = true) :
    Calls Tryz.prog 84 #[.string ⟨p.toArray⟩] w fun e w' => e = .returned (.tuple #[.int .i64 (valF 0 p : Int), .nilIface]) ∧ Below w.heap.size w w' := read_ok ⟨p.toArray⟩ w hg hc
theorem read_bad_l (p : List UInt8) (w : World) (hg : NumGlobs w) (hc : canonB p = false) :
    Calls Tryz.prog 84 #[.string ⟨p.toArray⟩] w fun e w' => ∃ (tp : TypeId) (pv : Value), e = .returned (.tuple #[.int .i64 0, .iface tp pv]) ∧ Below w.heap.size w w' := read_bad ⟨p.toArray⟩ w hg hc
set_option maxRecDepth 100000 in
set_option maxHeartbeats 1600000 in
theorem readPlace_ok (s : ByteArray) (w : World) (hs : s.size ≤ 1048576) (hg : NumGlobs w) (hm : CutGlobs w) (a b : Int) (ok : placeOf s.data.toList = (true, a, b)) :
    Calls Tryz.prog 37 #[.string s] w fun e w' => e = .returned (.tuple #[.agg #[.int .i64 a, .int .i64 b], .nilIface]) ∧ Below w.heap.size w w' := by
  rw [place_cut] at ok
  obtain ⟨p, hp⟩ : ∃ p, (Lib.cut s.data.toList [46]).1 = p := ⟨_, rfl⟩
  obtain ⟨q, hq⟩ : ∃ q, (Lib.cut s.data.toList [46]).2.1 = q := ⟨_, rfl⟩
  obtain ⟨f, hf⟩ : ∃ f, (Lib.cut s.data.toList [46]).2.2 = f := ⟨_, rfl⟩
  rw [hp, hq] at ok
  by_cases hc : (canonB p && canonB q) = true
  case neg => rw [if_neg hc] at ok; cases ok
  rw [if_pos hc] at ok
  simp only [Prod.mk.injEq, true_and] at ok
  obtain ⟨ha, hb⟩ := ok
  simp only [Bool.and_eq_true] at hc
  have c1 := read_ok_l p
  have c2 := read_ok_l q
  rw [ha] at c1
  rw [hb] at c2
  have C0 := Lib.hid (cut_dot s · hs ·)
  have C1 := Lib.hid (c1 · · hc.1)
  have C2 := Lib.hid (c2 · · hc.2)
  have HP := Lib.hid hp
  have HQ := Lib.hid hq
  have HF := Lib.hid hf
  have hs2 : s.size < 2 ^ 62 := by omega
  clear c1 c2 hc ha hb hp hq hf hs
  go_enter Tryz.func37, Tryz.ntmps37
  go_wp2_with fail
  refine (C0.out _ (hm.below ((Below.refl _ w).alloc (Nat.le_refl _) _) hg.tabs.size)).mono ?_
  rintro e w1 ⟨rfl, hb1⟩
  rw [HP.out, HQ.out, HF.out]
  have hB1 := ((Below.refl _ w).alloc (Nat.le_refl _) (.cells #[.int .i64 0, .int .i64 0] 26)).trans (hb1.mono (by simp))
  have hg1 := hg.below hB1 hg.tabs.size
  go_wp2_with fail
  refine (C1.out _ hg1).mono ?_
  rintro e w2 ⟨rfl, hb2⟩
  have hg2 := hg1.below hb2 hg1.tabs.size
  go_wp2_with fail
  refine (C2.out _ hg2).mono ?_
  rintro e w3 ⟨rfl, hb3⟩
  have hBa := hb1.trans ((hb2.mono hb1.size).trans (hb3.mono (Nat.le_trans hb1.size hb2.size)))
  have hc0 : w3.cell? ⟨w.heap.size, 0, none⟩ = some (.int .i64 0) := (hBa.cell (by simp)).trans (by simp)
  have hc1 : w3.cell? ⟨w.heap.size, 1, none⟩ = some (.int .i64 0) := (hBa.cell (by simp)).trans (by simp)
  have hf0 : w3.frozen? ⟨w.heap.size, 0, none⟩ = false := (hBa.frozen (by simp)).trans (by simp)
  have hf1 : w3.frozen? ⟨w.heap.size, 1, none⟩ = false := (hBa.frozen (by simp)).trans (by simp)
  have hz : w.heap.size < w3.heap.size := by have := hBa.size; simp at this; omega
  have hB := Lib.hid (((Below.refl _ w).alloc (Nat.le_refl _) _).trans (hBa.mono (by simp)))
  clear hb1 hb2 hb3 hBa hB1 hg1 hg2
  go_wp2
  refine bodyPost_ret (v := .tuple #[.agg #[.int .i64 a, .int .i64 b], .nilIface]) (by simp [results, Tryz.results37, go_sem, hc0, hc1]) rfl ⟨rfl, ?_⟩
  exact (hB.out.setCell (Nat.le_refl _) _).setCell (Nat.le_refl _) _
set_option maxRecDepth 100000 in
set_option maxHeartbeats 1600000 in
theorem readPlace_bad (s : ByteArray) (w : World) (hs : s.size ≤ 1048576) (hg : NumGlobs w) (hm : CutGlobs w) (ok : (placeOf s.data.toList).1 = false) :
    Calls Tryz.prog 37 #[.string s] w fun e w' => ∃ (tp : TypeId) (pv : Value), e = .returned (.tuple #[.agg #[.int .i64 0, .int .i64 0], .iface tp pv]) ∧ Below w.heap.size w w' := by
  rw [place_cut] at ok
  obtain ⟨p, hp⟩ : ∃ p, (Lib.cut s.data.toList [46]).1 = p := ⟨_, rfl⟩
  obtain ⟨q, hq⟩ : ∃ q, (Lib.cut s.data.toList [46]).2.1 = q := ⟨_, rfl⟩
  obtain ⟨f, hf⟩ : ∃ f, (Lib.cut s.data.toList [46]).2.2 = f := ⟨_, rfl⟩
  rw [hp, hq] at ok
  have C0 := Lib.hid (cut_dot s · hs ·)
  have HP := Lib.hid hp
  have HQ := Lib.hid hq
  have HF := Lib.hid hf
  have hs2 : s.size < 2 ^ 62 := by omega
  clear hp hq hf hs
  by_cases hcp : canonB p = true
  · have hcq : canonB q = false := by
      by_cases h : canonB q = true
      · simp [hcp, h] at ok
      · simpa using h
    have C1 := Lib.hid (read_ok_l p · · hcp)
    have C2 := Lib.hid (read_bad_l q · · hcq)
    clear ok hcp hcq
    go_enter Tryz.func37, Tryz.ntmps37
    go_wp2_with fail
    refine (C0.out _ (hm.below ((Below.refl _ w).alloc (Nat.le_refl _) _) hg.tabs.size)).mono ?_
    rintro e w1 ⟨rfl, hb1⟩
    rw [HP.out, HQ.out, HF.out]
    have hB1 := ((Below.refl _ w).alloc (Nat.le_refl _) (.cells #[.int .i64 0, .int .i64 0] 26)).trans (hb1.mono (by simp))
    have hg1 := hg.below hB1 hg.tabs.size
    go_wp2_with fail
    refine (C1.out _ hg1).mono ?_
    rintro e w2 ⟨rfl, hb2⟩
    have hg2 := hg1.below hb2 hg1.tabs.size
    go_wp2_with fail
    refine (C2.out _ hg2).mono ?_
    rintro e w3 ⟨tp, pv, rfl, hb3⟩
    have hBa := hb1.trans ((hb2.mono hb1.size).trans (hb3.mono (Nat.le_trans hb1.size hb2.size)))
    have hc0 : w3.cell? ⟨w.heap.size, 0, none⟩ = some (.int .i64 0) := (hBa.cell (by simp)).trans (by simp)
    have hc1 : w3.cell? ⟨w.heap.size, 1, none⟩ = some (.int .i64 0) := (hBa.cell (by simp)).trans (by simp)
    have hf0 : w3.frozen? ⟨w.heap.size, 0, none⟩ = false := (hBa.frozen (by simp)).trans (by simp)
    have hf1 : w3.frozen? ⟨w.heap.size, 1, none⟩ = false := (hBa.frozen (by simp)).trans (by simp)
    have hz : w.heap.size < w3.heap.size := by have := hBa.size; simp at this; omega
    have hB := Lib.hid (((Below.refl _ w).alloc (Nat.le_refl _) _).trans (hBa.mono (by simp)))
    clear hb1 hb2 hb3 hBa hB1 hg1 hg2
    go_wp2
    refine bodyPost_ret (v := .tuple #[.agg #[.int .i64 0, .int .i64 0], .iface tp pv]) (by simp [results, Tryz.results37, go_sem, hc0, hc1]) rfl ⟨_, _, rfl, ?_⟩
    exact (hB.out.setCell (Nat.le_refl _) _).setCell (Nat.le_refl _) _
  · have hcp' : canonB p = false := by simpa using hcp
    have C1 := Lib.hid (read_bad_l p · · hcp')
    clear ok hcp hcp'
    go_enter Tryz.func37, Tryz.ntmps37
    go_wp2_with fail
    refine (C0.out _ (hm.below ((Below.refl _ w).alloc (Nat.le_refl _) _) hg.tabs.size)).mono ?_
    rintro e w1 ⟨rfl, hb1⟩
    rw [HP.out, HQ.out, HF.out]
    have hB1 := ((Below.refl _ w).alloc (Nat.le_refl _) (.cells #[.int .i64 0, .int .i64 0] 26)).trans (hb1.mono (by simp))
    have hg1 := hg.below hB1 hg.tabs.size
    go_wp2_with fail
    refine (C1.out _ hg1).mono ?_
    rintro e w3 ⟨tp, pv, rfl, hb3⟩
    have hBa := hb1.trans (hb3.mono hb1.size)
    have hc0 : w3.cell? ⟨w.heap.size, 0, none⟩ = some (.int .i64 0) := (hBa.cell (by simp)).trans (by simp)
    have hc1 : w3.cell? ⟨w.heap.size, 1, none⟩ = some (.int .i64 0) := (hBa.cell (by simp)).trans (by simp)
    have hf0 : w3.frozen? ⟨w.heap.size, 0, none⟩ = false := (hBa.frozen (by simp)).trans (by simp)
    have hf1 : w3.frozen? ⟨w.heap.size, 1, none⟩ = false := (hBa.frozen (by simp)).trans (by simp)
    have hz : w.heap.size < w3.heap.size := by have := hBa.size; simp at this; omega
    have hB := Lib.hid (((Below.refl _ w).alloc (Nat.le_refl _) _).trans (hBa.mono (by simp)))
    clear hb1 hb3 hBa hB1 hg1
    go_wp2
    refine bodyPost_ret (v := .tuple #[.agg #[.int .i64 0, .int .i64 0], .iface tp pv]) (by simp [results, Tryz.results37, go_sem, hc0, hc1]) rfl ⟨_, _, rfl, ?_⟩
    exact (hB.out.setCell (Nat.le_refl _) _).setCell (Nat.le_refl _) _
set_option maxRecDepth 100000 in
set_option maxHeartbeats 1600000 in
theorem parsePlace_ok (s : ByteArray) (w : World) (hs : s.size ≤ 1048576) (hg : NumGlobs w) (hm : CutGlobs w) (a b : Int) (ok : placeOf s.data.toList = (true, a, b)) :
    Calls Tryz.prog 7 #[.string s] w fun e w' => e = .returned (.tuple #[.agg #[.int .i64 a, .int .i64 b], .bool true]) ∧ Below w.heap.size w w' := by
  have C0 := Lib.hid (readPlace_ok s · hs · · a b ok)
  have hB0 := (Below.refl _ w).alloc (Nat.le_refl _) (.cells #[.int .i64 0, .int .i64 0] 26)
  have hg0 := hg.below hB0 hg.tabs.size
  have hm0 := hm.below hB0 hg.tabs.size
  clear hs ok
  go_enter Tryz.func7, Tryz.ntmps7
  go_wp2_with fail
  refine (C0.out _ hg0 hm0).mono ?_
  rintro e w1 ⟨rfl, hb1⟩
  have hc0 : w1.cell? ⟨w.heap.size, 0, none⟩ = some (.int .i64 0) := (hb1.cell (by simp)).trans (by simp)
  have hc1 : w1.cell? ⟨w.heap.size, 1, none⟩ = some (.int .i64 0) := (hb1.cell (by simp)).trans (by simp)
  have hf0 : w1.frozen? ⟨w.heap.size, 0, none⟩ = false := (hb1.frozen (by simp)).trans (by simp)
  have hf1 : w1.frozen? ⟨w.heap.size, 1, none⟩ = false := (hb1.frozen (by simp)).trans (by simp)
  have hz : w.heap.size < w1.heap.size := by have := hb1.size; simp at this; omega
  have hB := Lib.hid (hB0.trans (hb1.mono (by simp)))
  clear hb1 hB0 hg0 hm0
  go_wp2
  go_region
  go_wp2
  obtain ⟨r0, r1⟩ := set2_cells (x := .int .i64 a) (y := .int .i64 b) hz hc0 hc1 (.cells #[.int .i64 a, .int .i64 b] 26)
  refine bodyPost_ret (v := .tuple #[.agg #[.int .i64 a, .int .i64 b], .bool true]) (by simp [results, Tryz.results7, go_sem, r0, r1]) rfl ⟨rfl, ?_⟩
  exact (((hB.out.setCell (Nat.le_refl _) _).setCell (Nat.le_refl _) _).alloc (by simp [World.setCell]; omega) _).drew
set_option maxRecDepth 100000 in
set_option maxHeartbeats 1600000 in
theorem parsePlace_bad (s : ByteArray) (w : World) (hs : s.size ≤ 1048576) (hg : NumGlobs w) (hm : CutGlobs w) (ok : (placeOf s.data.toList).1 = false) :
    Calls Tryz.prog 7 #[.string s] w fun e w' => e = .returned (.tuple #[.agg #[.int .i64 0, .int .i64 0], .bool false]) ∧ Below w.heap.size w w' := by
  have C0 := Lib.hid (readPlace_bad s · hs · · ok)
  have hB0 := (Below.refl _ w).alloc (Nat.le_refl _) (.cells #[.int .i64 0, .int .i64 0] 26)
  have hg0 := hg.below hB0 hg.tabs.size
  have hm0 := hm.below hB0 hg.tabs.size
  clear hs ok
  go_enter Tryz.func7, Tryz.ntmps7
  go_wp2_with fail
  refine (C0.out _ hg0 hm0).mono ?_
  rintro e w1 ⟨tp, pv, rfl, hb1⟩
  have hc0 : w1.cell? ⟨w.heap.size, 0, none⟩ = some (.int .i64 0) := (hb1.cell (by simp)).trans (by simp)
  have hc1 : w1.cell? ⟨w.heap.size, 1, none⟩ = some (.int .i64 0) := (hb1.cell (by simp)).trans (by simp)
  have hf0 : w1.frozen? ⟨w.heap.size, 0, none⟩ = false := (hb1.frozen (by simp)).trans (by simp)
  have hf1 : w1.frozen? ⟨w.heap.size, 1, none⟩ = false := (hb1.frozen (by simp)).trans (by simp)
  have hz : w.heap.size < w1.heap.size := by have := hb1.size; simp at this; omega
  have hB := Lib.hid (hB0.trans (hb1.mono (by simp)))
  clear hb1 hB0 hg0 hm0
  go_wp2
  go_region
  go_wp2
  obtain ⟨r0, r1⟩ := set2_cells (x := .int .i64 0) (y := .int .i64 0) hz hc0 hc1 (.cells #[.int .i64 0, .int .i64 0] 26)
  refine bodyPost_ret (v := .tuple #[.agg #[.int .i64 0, .int .i64 0], .bool false]) (by simp [results, Tryz.results7, go_sem, r0, r1]) rfl ⟨rfl, ?_⟩
  exact (((hB.out.setCell (Nat.le_refl _) _).setCell (Nat.le_refl _) _).alloc (by simp [World.setCell]; omega) _).drew
theorem implPlace_any (s : ByteArray) (w : World) (hs : s.size ≤ 1048576) (hg : NumGlobs w) (hm : CutGlobs w) :
    Calls Tryz.prog 7 #[.string s] w fun e w' => e = .returned (.tuple #[.agg #[.int .i64 (placeOf s.data.toList).2.1, .int .i64 (placeOf s.data.toList).2.2], .bool (placeOf s.data.toList).1]) ∧ Below w.heap.size w w' := by
  cases h : (placeOf s.data.toList).1 with
  | true => exact parsePlace_ok s w hs hg hm _ _ (by rw [← h])
  | false =>
    have e : placeOf s.data.toList = (false, 0, 0) := by
      have h2 := h
      rw [place_cut] at h2 ⊢
      by_cases hc : (canonB (Lib.cut s.data.toList [46]).1 && canonB (Lib.cut s.data.toList [46]).2.1) = true
      · rw [if_pos hc] at h2; cases h2
      · rw [if_neg hc]
    rw [e]
    exact parsePlace_bad s w hs hg hm h
end Go.Proofs.YtjogfagjcpcihaaGreatDoor
