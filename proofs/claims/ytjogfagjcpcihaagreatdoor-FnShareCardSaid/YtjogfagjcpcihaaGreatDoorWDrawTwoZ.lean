/-
  The walks of the given l10Two and DrawCanShare: a small graph and two places. Condition: the code's memory holds bytes.
-/
import Derived.Test.YtjogfagjcpcihaaGreatDoorWDrawNmZ
import Derived.Test.YtjogfagjcpcihaaGreatDoorJCZ
namespace Go.Proofs.YtjogfagjcpcihaaGreatDoor
open Go Go.RowKit Sg
def Two (w : World) (r : Nat) (e : Ending) (w' : World) : Prop := ∃ ss ov cv a b c d, e = .returned (.tuple #[.agg #[.slice ov (List.length ss) cv], .agg #[.int .i64 a, .int .i64 b], .agg #[.int .i64 c, .int .i64 d]]) ∧ (∃ hs, HeldGr w' w.heap.size (.slice ov (List.length ss) cv) ss hs) ∧ Lit1 210 ss ∧ (I64 a ∧ I64 b ∧ I64 c ∧ I64 d) ∧ ∀ N, N ≤ r → Below N w w'
structure Tw (w W : World) (r : Nat) (oa : Option Addr) (len cap P n5 : Nat) (v : Value) (ss : List Sc) (hs : List Value) (u : Value) (L : List (Int × Int)) : Prop where
  rd : RdAt w W r oa len cap P
  t2 : Row W w.heap.size 33 [.slice none 0 0]
  t3 : Row W (w.heap.size + 1) 26 [.int .i64 0, .int .i64 0]
  t4 : Row W (w.heap.size + 2) 26 [.int .i64 0, .int .i64 0]
  t5 : Row W n5 33 [v]
  low : w.heap.size + 2 < n5
  gr : HeldGr W w.heap.size v ss hs
  far : r < w.heap.size
  row : W.ownsRow n5 26 2 u L.length (placeCells L)
theorem Tw.step {w W W' : World} {r len cap P n5 : Nat} {oa : Option Addr} {v u : Value} {ss : List Sc} {hs : List Value} {L : List (Int × Int)} (h : Tw w W r oa len cap P n5 v ss hs u L) (hb : Below W.heap.size W W') : Tw w W' r oa len cap P n5 v ss hs u L :=
  ⟨h.rd.step hb, h.t2.below hb h.t2.lt, h.t3.below hb h.t3.lt, h.t4.below hb h.t4.lt, h.t5.below hb h.t5.lt, h.low, h.gr.below hb, h.far, ownsRow_below h.row hb⟩
theorem Tw.turn {w W W' : World} {r len cap P P' n5 : Nat} {oa : Option Addr} {v u : Value} {ss : List Sc} {hs : List Value} {L : List (Int × Int)} (h : Tw w W r oa len cap P n5 v ss hs u L) (hrd : RdAt w W' r oa len cap P') (ht : Turns W W' r r) : Tw w W' r oa len cap P' n5 v ss hs u L := by
  obtain ⟨p2, _, hr2⟩ := h.rd.now
  have hf := h.far
  have hl := h.low
  exact ⟨hrd, h.t2.asked ht (by omega), h.t3.asked ht (by omega), h.t4.asked ht (by omega), h.t5.asked ht (by omega), h.low, h.gr.asked hr2 ht, h.far, ownsRow_asked h.row ht (by omega)⟩
theorem Tw.askedAt {w W W' : World} {r len cap P P' n5 : Nat} {oa : Option Addr} {v u : Value} {ss : List Sc} {hs : List Value} {L : List (Int × Int)} (h : Tw w W r oa len cap P n5 v ss hs u L) (k : RdAt W W' r oa len cap P') : Tw w W' r oa len cap P' n5 v ss hs u L := h.turn (h.rd.trans k) k.turns
/-- The three results stored. -/
theorem stored3 {W : World} {B B' : Nat} {v : Value} {ss : List Sc} {hs : List Value} (t2 : Row W B 33 [.slice none 0 0]) (t3 : Row W (B + 1) 26 [.int .i64 0, .int .i64 0]) (t4 : Row W (B + 2) 26 [.int .i64 0, .int .i64 0]) (gr : HeldGr W B' v ss hs) (a b c d : Int) :
    ∃ W1 W2 W3, W1 = W.setCell ⟨B, 0, none⟩ v ∧ W2 = (W1.setCell ⟨B + 1, 0, none⟩ (.int .i64 a)).setCell ⟨B + 1, 1, none⟩ (.int .i64 b) ∧ W3 = (W2.setCell ⟨B + 2, 0, none⟩ (.int .i64 c)).setCell ⟨B + 2, 1, none⟩ (.int .i64 d) ∧
      Row W3 B 33 [v] ∧ Row W3 (B + 1) 26 [.int .i64 a, .int .i64 b] ∧ Row W3 (B + 2) 26 [.int .i64 c, .int .i64 d] ∧ Row W1 (B + 1) 26 [.int .i64 0, .int .i64 0] ∧ Row W2 (B + 2) 26 [.int .i64 0, .int .i64 0] ∧ HeldGr W3 B' v ss hs ∧ ∀ N, N ≤ B → ∀ w : World, Below N w W → Below N w W3 := by
  have A3 := t3.other (a := ⟨B, 0, none⟩) (by simp) v
  have A4 := t4.other (a := ⟨B, 0, none⟩) (by simp) v
  have B4 := (A4.other (a := ⟨B + 1, 0, none⟩) (by simp) (.int .i64 a)).other (a := ⟨B + 1, 1, none⟩) (by simp) (.int .i64 b)
  have B3 := (A3.set 0 (.int .i64 a)).set 1 (.int .i64 b)
  have A2 := t2.set 0 v
  have B2 := (A2.other (a := ⟨B + 1, 0, none⟩) (by simp) (.int .i64 a)).other (a := ⟨B + 1, 1, none⟩) (by simp) (.int .i64 b)
  refine ⟨_, _, _, rfl, rfl, rfl, ?_, ?_, (B4.set 0 (.int .i64 c)).set 1 (.int .i64 d), A3, B4, ?_, ?_⟩
  · exact (B2.other (a := ⟨B + 2, 0, none⟩) (by simp) (.int .i64 c)).other (a := ⟨B + 2, 1, none⟩) (by simp) (.int .i64 d)
  · exact (B3.other (a := ⟨B + 2, 0, none⟩) (by simp) (.int .i64 c)).other (a := ⟨B + 2, 1, none⟩) (by simp) (.int .i64 d)
  · exact ((((gr.other t2 (by decide) (by decide) 0 v).other A3 (by decide) (by decide) 0 (.int .i64 a)).other (A3.set 0 (.int .i64 a)) (by decide) (by decide) 1 (.int .i64 b)).other B4 (by decide) (by decide) 0 (.int .i64 c)).other (B4.set 0 (.int .i64 c)) (by decide) (by decide) 1 (.int .i64 d)
  · intro N hN w hw
    exact ((((hw.setCell (by show N ≤ B; omega) _).setCell (by show N ≤ B + 1; omega) _).setCell (by show N ≤ B + 1; omega) _).setCell (by show N ≤ B + 2; omega) _).setCell (by show N ≤ B + 2; omega) _
theorem Tw.stored {w W : World} {r len cap P n5 : Nat} {oa : Option Addr} {v u : Value} {ss : List Sc} {hs : List Value} {L : List (Int × Int)} (h : Tw w W r oa len cap P n5 v ss hs u L) (a b c d : Int) :
    ∃ W1 W2 W3, W1 = W.setCell ⟨w.heap.size, 0, none⟩ v ∧ W2 = (W1.setCell ⟨w.heap.size + 1, 0, none⟩ (.int .i64 a)).setCell ⟨w.heap.size + 1, 1, none⟩ (.int .i64 b) ∧ W3 = (W2.setCell ⟨w.heap.size + 2, 0, none⟩ (.int .i64 c)).setCell ⟨w.heap.size + 2, 1, none⟩ (.int .i64 d) ∧
      Row W3 w.heap.size 33 [v] ∧ Row W3 (w.heap.size + 1) 26 [.int .i64 a, .int .i64 b] ∧ Row W3 (w.heap.size + 2) 26 [.int .i64 c, .int .i64 d] ∧ Row W1 (w.heap.size + 1) 26 [.int .i64 0, .int .i64 0] ∧ Row W2 (w.heap.size + 2) 26 [.int .i64 0, .int .i64 0] ∧ HeldGr W3 w.heap.size v ss hs ∧ ∀ N, N ≤ r → Below N w W3 := by
  obtain ⟨W1, W2, W3, h1, h2, h3, h4, h5, h6, h7, h8, h9, h10⟩ := stored3 h.t2 h.t3 h.t4 h.gr a b c d
  have hf := h.far
  exact ⟨W1, W2, W3, h1, h2, h3, h4, h5, h6, h7, h8, h9, fun N hN => h10 N (by omega) w (h.rd.turns.below hN hN (by omega))⟩
theorem Tw.places {w W : World} {r len cap P n5 bl offl cl : Nat} {oa : Option Addr} {v : Value} {ss : List Sc} {hs : List Value} {L : List (Int × Int)} (h : Tw w W r oa len cap P n5 v ss hs (.slice (some ⟨bl, offl, none⟩) L.length cl) L) : HoldsPlaces W bl offl L := by
  obtain ⟨oq, cq, heq, hap⟩ := argPlaces_of_owns h.row
  cases heq
  rcases hap with h0 | ⟨b, off, h1, _, h3⟩
  · rw [h0]; intro i p hp; simp at hp
  · cases h1; exact h3
theorem HoldsPlaces.setFar {W : World} {b off : Nat} {L : List (Int × Int)} (h : HoldsPlaces W b off L) {g i : Nat} (hg : b ≠ g) (v : Value) : HoldsPlaces (W.setCell ⟨g, i, none⟩ v) b off L := fun k p hp =>
  ⟨(World.cell?_of_block (a := ⟨b, _, none⟩) (Below.heap_setCell _ _ _ _ hg)).trans (h k p hp).1, (World.cell?_of_block (a := ⟨b, _, none⟩) (Below.heap_setCell _ _ _ _ hg)).trans (h k p hp).2⟩
theorem Tw.kept {w W : World} {r len cap P n5 bl offl cl : Nat} {oa : Option Addr} {v : Value} {ss : List Sc} {hs : List Value} {L : List (Int × Int)} (h : Tw w W r oa len cap P n5 v ss hs (.slice (some ⟨bl, offl, none⟩) L.length cl) L) (a b c d : Int) :
    HoldsPlaces (W.setCell ⟨w.heap.size, 0, none⟩ v) bl offl L ∧ HoldsPlaces (((W.setCell ⟨w.heap.size, 0, none⟩ v).setCell ⟨w.heap.size + 1, 0, none⟩ (.int .i64 a)).setCell ⟨w.heap.size + 1, 1, none⟩ (.int .i64 b)) bl offl L ∧
      HoldsPlaces (((((W.setCell ⟨w.heap.size, 0, none⟩ v).setCell ⟨w.heap.size + 1, 0, none⟩ (.int .i64 a)).setCell ⟨w.heap.size + 1, 1, none⟩ (.int .i64 b)).setCell ⟨w.heap.size + 2, 0, none⟩ (.int .i64 c)).setCell ⟨w.heap.size + 2, 1, none⟩ (.int .i64 d)) bl offl L := by
  have hb : n5 ≤ bl := (h.row.lt bl rfl).1
  have hl := h.low
  have h1 := HoldsPlaces.setFar h.places (show bl ≠ w.heap.size by omega) (i := 0) v
  have h2 := HoldsPlaces.setFar (HoldsPlaces.setFar h1 (show bl ≠ w.heap.size + 1 by omega) (i := 0) (.int .i64 a)) (show bl ≠ w.heap.size + 1 by omega) (i := 1) (.int .i64 b)
  exact ⟨h1, h2, HoldsPlaces.setFar (HoldsPlaces.setFar h2 (show bl ≠ w.heap.size + 2 by omega) (i := 0) (.int .i64 c)) (show bl ≠ w.heap.size + 2 by omega) (i := 1) (.int .i64 d)⟩
set_option maxRecDepth 100000 in
set_option maxHeartbeats 16000000 in
theorem two_any {w : World} {r : Nat} {oa : Option Addr} {len cap p : Nat} (h : Rd w r oa len cap p) (hp : p ≤ 500000) : Calls Tryz.prog 69 #[.pointer (some ⟨r, 0, none⟩)] w (Two w r) := by
  have hbA : Below w.heap.size w (((w.alloc (.cells #[.slice none 0 0] 33)).alloc (.cells #[.int .i64 0, .int .i64 0] 26)).alloc (.cells #[.int .i64 0, .int .i64 0] 26)) := (((Below.refl _ _).alloc (Nat.le_refl _) _).alloc (by simp) _).alloc (by simp; omega) _
  have RA := Lib.hid (((Row.new w [.slice none 0 0] 33).alloc (.cells #[.int .i64 0, .int .i64 0] 26)).alloc (.cells #[.int .i64 0, .int .i64 0] 26))
  have hRB := (Row.new (w.alloc (.cells #[.slice none 0 0] 33)) [.int .i64 0, .int .i64 0] 26).alloc (.cells #[.int .i64 0, .int .i64 0] 26)
  rw [World.size_alloc] at hRB
  have RB := Lib.hid hRB
  have hRC := Row.new ((w.alloc (.cells #[.slice none 0 0] 33)).alloc (.cells #[.int .i64 0, .int .i64 0] 26)) [.int .i64 0, .int .i64 0] 26
  rw [World.size_alloc, World.size_alloc] at hRC
  have RC := Lib.hid hRC
  have C2 := Lib.hid (l9Graph_any (h.below hbA) (by omega))
  have AT0 := Lib.hid ((RdAt.start h (Nat.le_refl p) (by omega)).step hbA)
  have HRL : Hid (r < w.heap.size) := Lib.hid h.box.lt
  have hbs := hbA.size
  have HBS := Lib.hid hbs
  clear h hbA hRB hRC hbs
  go_enter Tryz.func69, Tryz.ntmps69
  go_wp2_with fail
  refine C2.out.mono ?_
  rintro e w2 ⟨ss, ov, cv, hs, rfl, hg, hl, hr2⟩
  have hbB := (Below.refl w2.heap.size w2).alloc (Nat.le_refl _) (.cells #[.slice ov ss.length cv] 33)
  have T2 := Lib.hid ((RA.out.asked hr2.turns (by have := HRL.out; omega)).alloc (.cells #[.slice ov ss.length cv] 33))
  have T3 := Lib.hid ((RB.out.asked hr2.turns (by have := HRL.out; omega)).alloc (.cells #[.slice ov ss.length cv] 33))
  have T4 := Lib.hid ((RC.out.asked hr2.turns (by have := HRL.out; omega)).alloc (.cells #[.slice ov ss.length cv] 33))
  have T5 := Lib.hid (Row.new w2 [.slice ov ss.length cv] 33)
  have HLO : Hid (w.heap.size + 2 < w2.heap.size) := Lib.hid (by have h1 := RC.out.lt; have h2 := hr2.turns.size; omega)
  have AT2 := Lib.hid ((AT0.out.trans hr2).step hbB)
  have HG := Lib.hid ((hg.lower HBS.out).below hbB)
  have HLL := Lib.hid hl
  have g0 := T5.out.cell (i := 0) (v := .slice ov ss.length cv) (by rfl)
  obtain ⟨oq, cq, heq, hhq⟩ := HG.out.holds
  cases heq
  have C3 := Lib.hid (l1Places210_any ss HLL.out.count HLL.out.items ov cv 1 _ hhq)
  have hpl : (plsP ss 1).length ≤ 44100 := Nat.le_trans (plsOf_length 1 (placed 0 ss)) (placed_bound 0 ss 210 210 HLL.out.count HLL.out.items)
  have HSM : Hid (∀ p ∈ plsP ss 1, I64 p.1 ∧ I64 p.2) := Lib.hid (by
    intro p hp
    unfold plsP plsOf at hp
    obtain ⟨q, hq, rfl⟩ := List.mem_map.1 hp
    obtain ⟨sc, _, hsc, hx⟩ := mem_placed.1 (List.mem_filter.1 hq).1
    simp only [Nat.sub_zero] at hsc
    have h1 := (List.getElem?_eq_some_iff.1 hsc).1
    have h2 := (List.getElem?_eq_some_iff.1 hx).1
    have h3 := HLL.out.items sc (List.mem_of_getElem? hsc)
    have h4 := HLL.out.count
    exact ⟨i64_nat (by omega), i64_nat (by omega)⟩)
  clear hg hl hr2 hbB hhq
  go_wp2_with fail
  refine C3.out.mono ?_
  rintro e w4 ⟨vl, rfl, hvl, hb4⟩
  obtain ⟨L, hL⟩ : ∃ L, plsP ss 1 = L := ⟨_, rfl⟩
  rw [hL] at hvl hpl HSM
  obtain ⟨ol, cl, rfl, -⟩ := argPlaces_of_owns hvl
  have H4 : Hid (Tw w w4 r oa len cap (p + 1000) w2.heap.size (.slice ov ss.length cv) ss hs (.slice ol L.length cl) L) := Lib.hid
    ⟨AT2.out.step hb4, T2.out.below hb4 T2.out.lt, T3.out.below hb4 T3.out.lt, T4.out.below hb4 T4.out.lt, T5.out.below hb4 T5.out.lt, HLO.out, HG.out.below hb4, HRL.out, ownsRow_lower hvl (by simp)⟩
  clear hvl hb4 g0 hL
  by_cases hz : L.length = 0
  · have hz0 : ((L.length : Int) == 0) = true := by simpa using hz
    clear hz
    have g0 := H4.out.t5.cell (i := 0) (v := .slice ov ss.length cv) (by rfl)
    obtain ⟨q5, hq5, hrd5⟩ := H4.out.rd.rd
    obtain ⟨oq, cq, heq, hhq⟩ := H4.out.gr.holds
    cases heq
    have C5 := Lib.hid (place1_any hrd5 (by omega) HLL.out (cv := cv) hhq)
    have HQ5 := Lib.hid hq5
    clear hrd5 hhq hq5
    go_wp2_with fail
    refine C5.out.mono ?_
    rintro e w5 ⟨x, y, rfl, hx, hy, hr5⟩
    have hbx := (Below.refl w5.heap.size w5).alloc (Nat.le_refl _) (.cells #[.int .i64 x, .int .i64 y] 26)
    have HT5 := Lib.hid ((H4.out.askedAt hr5).step hbx)
    have R7 := Lib.hid (Row.new w5 [.int .i64 x, .int .i64 y] 26)
    have HSZ5 : Hid (w2.heap.size ≤ w5.heap.size) := Lib.hid (by have h1 := hr5.turns.size; have h2 := H4.out.t5.lt; omega)
    have HI1 := Lib.hid (And.intro hx hy)
    clear hx hy hr5 hbx g0 C5
    go_upto_region 5 with (fail)
    refine wp_region_kept (S := fun w' => w'.cell? ⟨w2.heap.size, 0, none⟩ = some (.slice ov ss.length cv) ∧ w'.cell? ⟨w5.heap.size, 0, none⟩ = some (.int .i64 x) ∧ w'.cell? ⟨w5.heap.size, 1, none⟩ = some (.int .i64 y)) 20 (by kernel_rfl) ?_
    have HI0 := Lib.hid (HT5.out.step ((Below.refl _ _).drew))
    have hS0 := And.intro (HI0.out.t5.cell (i := 0) (v := .slice ov ss.length cv) (by rfl)) (And.intro (cell_drew (R7.out.cell (i := 0) (v := .int .i64 x) (by rfl))) (cell_drew (R7.out.cell (i := 1) (v := .int .i64 y) (by rfl))))
    refine KeptAny.take (i := 0) (v := ?_) (by kernel_rfl) rfl rfl (by kernel_rfl) (by kernel_rfl) (by kernel_rfl) (fun _ _ _ h => h) (by rfl) (fun w' hw' => ?_) (fun _ => rfl) hS0 ?_
    rotate_left
    · (obtain ⟨g0, g1, g2⟩ := hw'; go_simp; try with_reducible rfl)
    refine KeptAny.take (i := 1) (v := ?_) (by kernel_rfl) rfl rfl (by kernel_rfl) (by kernel_rfl) (by kernel_rfl) (fun _ _ _ h => h) (by rfl) (fun w' hw' => ?_) (fun _ => rfl) hS0 ?_
    rotate_left
    · (obtain ⟨g0, g1, g2⟩ := hw'; go_simp; try with_reducible rfl)
    refine KeptAny.take (i := 2) (v := ?_) (by kernel_rfl) rfl rfl (by kernel_rfl) (by kernel_rfl) (by kernel_rfl) (fun _ _ _ h => h) (by rfl) (fun w' hw' => ?_) (fun _ => rfl) hS0 ?_
    rotate_left
    · (obtain ⟨g0, g1, g2⟩ := hw'; go_simp; try with_reducible rfl)
    refine KeptAny.take (i := 3) (v := ?_) (by kernel_rfl) rfl rfl (by kernel_rfl) (by kernel_rfl) (by kernel_rfl) (fun _ _ _ h => h) (by rfl) (fun w' hw' => ?_) (fun _ => rfl) hS0 ?_
    rotate_left
    · (obtain ⟨g0, g1, g2⟩ := hw'; go_simp; try with_reducible rfl)
    clear hS0
    refine KeptAny.one (i := 4) (by kernel_rfl) rfl (by rfl) (fun K hK => ?_)
    go_simp
    refine ⟨trivial, ?_⟩
    obtain ⟨q6, hq6, hrd6⟩ := HI0.out.rd.rd
    obtain ⟨oq, cq, heq, hhq⟩ := HI0.out.gr.holds
    cases heq
    have hC := (callsIn_wide (n := 5)).2 (place1_any hrd6 (by have := HQ5.out; omega) HLL.out (cv := cv) hhq)
    refine hC.mono ?_
    clear hC hrd6 hhq hq6
    rintro e w6 ⟨x2, y2, rfl, hx2, hy2, hr6⟩
    have HT6 := Lib.hid (HI0.out.askedAt hr6)
    have R76 := Lib.hid ((R7.out.below ((Below.refl _ _).drew) R7.out.lt).asked hr6.turns (by have h1 := HT5.out.far; have h2 := HT5.out.low; have h3 := HT5.out.t5.lt; simp at h3; have h4 := R7.out.lt; simp at h4; omega))
    have HI2 := Lib.hid (And.intro hx2 hy2)
    clear hr6 hx2 hy2
    refine hK.out _ _ ⟨HT6.out.t5.cell (i := 0) (v := .slice ov ss.length cv) (by rfl), R76.out.cell (i := 0) (v := .int .i64 x) (by rfl), R76.out.cell (i := 1) (v := .int .i64 y) (by rfl)⟩ (fun _ => ?_)
    clear hK
    obtain ⟨W1, W2, W3, hW1, hW2, hW3, E2, E3, E4, F3, F4, EG, EB⟩ := HT6.out.stored x y x2 y2
    have HEND := Lib.hid (And.intro EG EB)
    have q2 := HT6.out.t2.cell (i := 0) (v := .slice none 0 0) (by rfl)
    have f2 := HT6.out.t2.frozen 0
    have q30 := F3.cell (i := 0) (v := .int .i64 0) (by rfl)
    have q31 := F3.cell (i := 1) (v := .int .i64 0) (by rfl)
    have q40 := F4.cell (i := 0) (v := .int .i64 0) (by rfl)
    have q41 := F4.cell (i := 1) (v := .int .i64 0) (by rfl)
    have f3 : ∀ k, W1.frozen? ⟨w.heap.size + 1, k, none⟩ = false := fun k => F3.frozen k
    have f4 : ∀ k, W2.frozen? ⟨w.heap.size + 2, k, none⟩ = false := fun k => F4.frozen k
    have e2 := E2.cell (i := 0) (v := .slice ov ss.length cv) (by rfl)
    have e30 := E3.cell (i := 0) (v := .int .i64 x) (by rfl)
    have e31 := E3.cell (i := 1) (v := .int .i64 y) (by rfl)
    have e40 := E4.cell (i := 0) (v := .int .i64 x2) (by rfl)
    have e41 := E4.cell (i := 1) (v := .int .i64 y2) (by rfl)
    clear EG EB E2 E3 E4 F3 F4
    have hfar : w.heap.size + 2 < w2.heap.size ∧ w.heap.size + 2 < w5.heap.size := ⟨HT6.out.low, by have h1 := HT6.out.low; have h3 := HSZ5.out; omega⟩
    have RX1 := (HT6.out.t5.other (a := ⟨w.heap.size, 0, none⟩) (show w.heap.size ≠ w2.heap.size by omega) (.slice ov ss.length cv))
    have RX2 := (RX1.other (a := ⟨w.heap.size + 1, 0, none⟩) (show w.heap.size + 1 ≠ w2.heap.size by omega) (.int .i64 x)).other (a := ⟨w.heap.size + 1, 1, none⟩) (show w.heap.size + 1 ≠ w2.heap.size by omega) (.int .i64 y)
    have RX3 := (RX2.other (a := ⟨w.heap.size + 2, 0, none⟩) (show w.heap.size + 2 ≠ w2.heap.size by omega) (.int .i64 x2)).other (a := ⟨w.heap.size + 2, 1, none⟩) (show w.heap.size + 2 ≠ w2.heap.size by omega) (.int .i64 y2)
    have RY1 := (R76.out.other (a := ⟨w.heap.size, 0, none⟩) (show w.heap.size ≠ w5.heap.size by omega) (.slice ov ss.length cv))
    have RY2 := (RY1.other (a := ⟨w.heap.size + 1, 0, none⟩) (show w.heap.size + 1 ≠ w5.heap.size by omega) (.int .i64 x)).other (a := ⟨w.heap.size + 1, 1, none⟩) (show w.heap.size + 1 ≠ w5.heap.size by omega) (.int .i64 y)
    have RY3 := (RY2.other (a := ⟨w.heap.size + 2, 0, none⟩) (show w.heap.size + 2 ≠ w5.heap.size by omega) (.int .i64 x2)).other (a := ⟨w.heap.size + 2, 1, none⟩) (show w.heap.size + 2 ≠ w5.heap.size by omega) (.int .i64 y2)
    have hx1 := And.intro (RX1.cell (i := 0) (v := .slice ov ss.length cv) (by rfl)) (And.intro (RY1.cell (i := 0) (v := .int .i64 x) (by rfl)) (RY1.cell (i := 1) (v := .int .i64 y) (by rfl)))
    have hx2 := And.intro (RX2.cell (i := 0) (v := .slice ov ss.length cv) (by rfl)) (And.intro (RY2.cell (i := 0) (v := .int .i64 x) (by rfl)) (RY2.cell (i := 1) (v := .int .i64 y) (by rfl)))
    have hx3 := And.intro (RX3.cell (i := 0) (v := .slice ov ss.length cv) (by rfl)) (And.intro (RY3.cell (i := 0) (v := .int .i64 x) (by rfl)) (RY3.cell (i := 1) (v := .int .i64 y) (by rfl)))
    have HX := Lib.hid (And.intro hx1 (And.intro hx2 hx3))
    subst hW1 hW2 hW3
    clear RX1 RX2 RX3 RY1 RY2 RY3 hx1 hx2 hx3 hfar
    refine KeptAny.one (i := 5) (by kernel_rfl) rfl (by rfl) (fun K hK => ?_)
    go_simp
    refine hK.out _ _ HX.out.1 (fun _ => ?_)
    clear hK
    refine KeptAny.one (i := 6) (by kernel_rfl) rfl (by rfl) (fun K hK => ?_)
    go_simp
    refine hK.out _ _ HX.out.2.1 (fun _ => ?_)
    clear hK
    refine KeptAny.one (i := 7) (by kernel_rfl) rfl (by rfl) (fun K hK => ?_)
    go_simp
    refine hK.out _ _ HX.out.2.2 (fun _ => ?_)
    clear hK
    refine KeptAny.done (by kernel_rfl) ?_ _
    go_wp2
    exact bodyPost_ret (v := .tuple #[.agg #[.slice ov ss.length cv], .agg #[.int .i64 x, .int .i64 y], .agg #[.int .i64 x2, .int .i64 y2]]) (by simp [results, Tryz.results69, go_sem, e2, e30, e31, e40, e41]) rfl ⟨ss, _, _, x, y, x2, y2, rfl, ⟨_, HEND.out.1⟩, HLL.out, ⟨HI1.out.1, HI1.out.2, HI2.out.1, HI2.out.2⟩, HEND.out.2⟩
  · have hz0 : ((L.length : Int) == 0) = false := by simpa using hz
    obtain ⟨q4, hq4, hrd4⟩ := H4.out.rd.rd
    have C4 := Lib.hid (pick_any hrd4 (by omega) 10 (by decide))
    have HQ4 := Lib.hid hq4
    clear hrd4 hq4
    go_wp2_with fail
    refine C4.out.mono ?_
    rintro e w4b ⟨z, rfl, -, hzz, hr4⟩
    have H4b := Lib.hid (H4.out.turn (H4.out.rd.asked HQ4.out hr4 (by omega)) hr4.turns)
    clear hzz hr4
    by_cases hz9 : z = 0
    · have hz8 : ((z : Int) == 0) = true := by simpa using hz9
      clear hz9
      have g0 := H4b.out.t5.cell (i := 0) (v := .slice ov ss.length cv) (by rfl)
      obtain ⟨q5, hq5, hrd5⟩ := H4b.out.rd.rd
      obtain ⟨oq, cq, heq, hhq⟩ := H4b.out.gr.holds
      cases heq
      have C5 := Lib.hid (place1_any hrd5 (by omega) HLL.out (cv := cv) hhq)
      have HQ5 := Lib.hid hq5
      clear hrd5 hhq hq5
      go_wp2_with fail
      refine C5.out.mono ?_
      rintro e w5 ⟨x, y, rfl, hx, hy, hr5⟩
      have hbx := (Below.refl w5.heap.size w5).alloc (Nat.le_refl _) (.cells #[.int .i64 x, .int .i64 y] 26)
      have HT5 := Lib.hid ((H4b.out.askedAt hr5).step hbx)
      have R7 := Lib.hid (Row.new w5 [.int .i64 x, .int .i64 y] 26)
      have HSZ5 : Hid (w2.heap.size ≤ w5.heap.size) := Lib.hid (by have h1 := hr5.turns.size; have h2 := H4b.out.t5.lt; omega)
      have HI1 := Lib.hid (And.intro hx hy)
      clear hx hy hr5 hbx g0 C5
      go_upto_region 5 with (fail)
      refine wp_region_kept (S := fun w' => w'.cell? ⟨w2.heap.size, 0, none⟩ = some (.slice ov ss.length cv) ∧ w'.cell? ⟨w5.heap.size, 0, none⟩ = some (.int .i64 x) ∧ w'.cell? ⟨w5.heap.size, 1, none⟩ = some (.int .i64 y)) 20 (by kernel_rfl) ?_
      have HI0 := Lib.hid (HT5.out.step ((Below.refl _ _).drew))
      have hS0 := And.intro (HI0.out.t5.cell (i := 0) (v := .slice ov ss.length cv) (by rfl)) (And.intro (cell_drew (R7.out.cell (i := 0) (v := .int .i64 x) (by rfl))) (cell_drew (R7.out.cell (i := 1) (v := .int .i64 y) (by rfl))))
      refine KeptAny.take (i := 0) (v := ?_) (by kernel_rfl) rfl rfl (by kernel_rfl) (by kernel_rfl) (by kernel_rfl) (fun _ _ _ h => h) (by rfl) (fun w' hw' => ?_) (fun _ => rfl) hS0 ?_
      rotate_left
      · (obtain ⟨g0, g1, g2⟩ := hw'; go_simp; try with_reducible rfl)
      refine KeptAny.take (i := 1) (v := ?_) (by kernel_rfl) rfl rfl (by kernel_rfl) (by kernel_rfl) (by kernel_rfl) (fun _ _ _ h => h) (by rfl) (fun w' hw' => ?_) (fun _ => rfl) hS0 ?_
      rotate_left
      · (obtain ⟨g0, g1, g2⟩ := hw'; go_simp; try with_reducible rfl)
      refine KeptAny.take (i := 2) (v := ?_) (by kernel_rfl) rfl rfl (by kernel_rfl) (by kernel_rfl) (by kernel_rfl) (fun _ _ _ h => h) (by rfl) (fun w' hw' => ?_) (fun _ => rfl) hS0 ?_
      rotate_left
      · (obtain ⟨g0, g1, g2⟩ := hw'; go_simp; try with_reducible rfl)
      refine KeptAny.take (i := 3) (v := ?_) (by kernel_rfl) rfl rfl (by kernel_rfl) (by kernel_rfl) (by kernel_rfl) (fun _ _ _ h => h) (by rfl) (fun w' hw' => ?_) (fun _ => rfl) hS0 ?_
      rotate_left
      · (obtain ⟨g0, g1, g2⟩ := hw'; go_simp; try with_reducible rfl)
      clear hS0
      refine KeptAny.one (i := 4) (by kernel_rfl) rfl (by rfl) (fun K hK => ?_)
      go_simp
      refine ⟨trivial, ?_⟩
      obtain ⟨q6, hq6, hrd6⟩ := HI0.out.rd.rd
      obtain ⟨oq, cq, heq, hhq⟩ := HI0.out.gr.holds
      cases heq
      have hC := (callsIn_wide (n := 5)).2 (place1_any hrd6 (by have := HQ5.out; omega) HLL.out (cv := cv) hhq)
      refine hC.mono ?_
      clear hC hrd6 hhq hq6
      rintro e w6 ⟨x2, y2, rfl, hx2, hy2, hr6⟩
      have HT6 := Lib.hid (HI0.out.askedAt hr6)
      have R76 := Lib.hid ((R7.out.below ((Below.refl _ _).drew) R7.out.lt).asked hr6.turns (by have h1 := HT5.out.far; have h2 := HT5.out.low; have h3 := HT5.out.t5.lt; simp at h3; have h4 := R7.out.lt; simp at h4; omega))
      have HI2 := Lib.hid (And.intro hx2 hy2)
      clear hr6 hx2 hy2
      refine hK.out _ _ ⟨HT6.out.t5.cell (i := 0) (v := .slice ov ss.length cv) (by rfl), R76.out.cell (i := 0) (v := .int .i64 x) (by rfl), R76.out.cell (i := 1) (v := .int .i64 y) (by rfl)⟩ (fun _ => ?_)
      clear hK
      obtain ⟨W1, W2, W3, hW1, hW2, hW3, E2, E3, E4, F3, F4, EG, EB⟩ := HT6.out.stored x y x2 y2
      have HEND := Lib.hid (And.intro EG EB)
      have q2 := HT6.out.t2.cell (i := 0) (v := .slice none 0 0) (by rfl)
      have f2 := HT6.out.t2.frozen 0
      have q30 := F3.cell (i := 0) (v := .int .i64 0) (by rfl)
      have q31 := F3.cell (i := 1) (v := .int .i64 0) (by rfl)
      have q40 := F4.cell (i := 0) (v := .int .i64 0) (by rfl)
      have q41 := F4.cell (i := 1) (v := .int .i64 0) (by rfl)
      have f3 : ∀ k, W1.frozen? ⟨w.heap.size + 1, k, none⟩ = false := fun k => F3.frozen k
      have f4 : ∀ k, W2.frozen? ⟨w.heap.size + 2, k, none⟩ = false := fun k => F4.frozen k
      have e2 := E2.cell (i := 0) (v := .slice ov ss.length cv) (by rfl)
      have e30 := E3.cell (i := 0) (v := .int .i64 x) (by rfl)
      have e31 := E3.cell (i := 1) (v := .int .i64 y) (by rfl)
      have e40 := E4.cell (i := 0) (v := .int .i64 x2) (by rfl)
      have e41 := E4.cell (i := 1) (v := .int .i64 y2) (by rfl)
      clear EG EB E2 E3 E4 F3 F4
      have hfar : w.heap.size + 2 < w2.heap.size ∧ w.heap.size + 2 < w5.heap.size := ⟨HT6.out.low, by have h1 := HT6.out.low; have h3 := HSZ5.out; omega⟩
      have RX1 := (HT6.out.t5.other (a := ⟨w.heap.size, 0, none⟩) (show w.heap.size ≠ w2.heap.size by omega) (.slice ov ss.length cv))
      have RX2 := (RX1.other (a := ⟨w.heap.size + 1, 0, none⟩) (show w.heap.size + 1 ≠ w2.heap.size by omega) (.int .i64 x)).other (a := ⟨w.heap.size + 1, 1, none⟩) (show w.heap.size + 1 ≠ w2.heap.size by omega) (.int .i64 y)
      have RX3 := (RX2.other (a := ⟨w.heap.size + 2, 0, none⟩) (show w.heap.size + 2 ≠ w2.heap.size by omega) (.int .i64 x2)).other (a := ⟨w.heap.size + 2, 1, none⟩) (show w.heap.size + 2 ≠ w2.heap.size by omega) (.int .i64 y2)
      have RY1 := (R76.out.other (a := ⟨w.heap.size, 0, none⟩) (show w.heap.size ≠ w5.heap.size by omega) (.slice ov ss.length cv))
      have RY2 := (RY1.other (a := ⟨w.heap.size + 1, 0, none⟩) (show w.heap.size + 1 ≠ w5.heap.size by omega) (.int .i64 x)).other (a := ⟨w.heap.size + 1, 1, none⟩) (show w.heap.size + 1 ≠ w5.heap.size by omega) (.int .i64 y)
      have RY3 := (RY2.other (a := ⟨w.heap.size + 2, 0, none⟩) (show w.heap.size + 2 ≠ w5.heap.size by omega) (.int .i64 x2)).other (a := ⟨w.heap.size + 2, 1, none⟩) (show w.heap.size + 2 ≠ w5.heap.size by omega) (.int .i64 y2)
      have hx1 := And.intro (RX1.cell (i := 0) (v := .slice ov ss.length cv) (by rfl)) (And.intro (RY1.cell (i := 0) (v := .int .i64 x) (by rfl)) (RY1.cell (i := 1) (v := .int .i64 y) (by rfl)))
      have hx2 := And.intro (RX2.cell (i := 0) (v := .slice ov ss.length cv) (by rfl)) (And.intro (RY2.cell (i := 0) (v := .int .i64 x) (by rfl)) (RY2.cell (i := 1) (v := .int .i64 y) (by rfl)))
      have hx3 := And.intro (RX3.cell (i := 0) (v := .slice ov ss.length cv) (by rfl)) (And.intro (RY3.cell (i := 0) (v := .int .i64 x) (by rfl)) (RY3.cell (i := 1) (v := .int .i64 y) (by rfl)))
      have HX := Lib.hid (And.intro hx1 (And.intro hx2 hx3))
      subst hW1 hW2 hW3
      clear RX1 RX2 RX3 RY1 RY2 RY3 hx1 hx2 hx3 hfar
      refine KeptAny.one (i := 5) (by kernel_rfl) rfl (by rfl) (fun K hK => ?_)
      go_simp
      refine hK.out _ _ HX.out.1 (fun _ => ?_)
      clear hK
      refine KeptAny.one (i := 6) (by kernel_rfl) rfl (by rfl) (fun K hK => ?_)
      go_simp
      refine hK.out _ _ HX.out.2.1 (fun _ => ?_)
      clear hK
      refine KeptAny.one (i := 7) (by kernel_rfl) rfl (by rfl) (fun K hK => ?_)
      go_simp
      refine hK.out _ _ HX.out.2.2 (fun _ => ?_)
      clear hK
      refine KeptAny.done (by kernel_rfl) ?_ _
      go_wp2
      exact bodyPost_ret (v := .tuple #[.agg #[.slice ov ss.length cv], .agg #[.int .i64 x, .int .i64 y], .agg #[.int .i64 x2, .int .i64 y2]]) (by simp [results, Tryz.results69, go_sem, e2, e30, e31, e40, e41]) rfl ⟨ss, _, _, x, y, x2, y2, rfl, ⟨_, HEND.out.1⟩, HLL.out, ⟨HI1.out.1, HI1.out.2, HI2.out.1, HI2.out.2⟩, HEND.out.2⟩
    · have hz8 : ((z : Int) == 0) = false := by simpa using hz9
      clear hz9
      obtain ⟨q6, hq6, hrd6⟩ := H4b.out.rd.rd
      have C6 := Lib.hid (pick_any hrd6 (by omega) (L.length : Int) (by omega))
      have HQ6 := Lib.hid hq6
      clear hrd6 hq6
      go_wp2_with fail
      refine C6.out.mono ?_
      rintro e w5 ⟨z1, rfl, -, hz1, hr5⟩
      have hzl : z1 < L.length := by have := hz1 (by omega); omega
      have H5 := Lib.hid (H4b.out.turn (H4b.out.rd.asked HQ6.out hr5 (by omega)) hr5.turns)
      obtain ⟨q1, hq1⟩ : ∃ q, L[z1]? = some q := ⟨_, List.getElem?_eq_getElem hzl⟩
      obtain ⟨xa, ya⟩ := q1
      obtain ⟨oq, cq, heq, hapq⟩ := argPlaces_of_owns H5.out.row
      cases heq
      obtain ⟨bl, offl, rfl, hbl, hcl⟩ := hapq.at (by omega)
      obtain ⟨ca, cb⟩ := hcl z1 (xa, ya) hq1
      have HI1 := Lib.hid (HSM.out _ (List.mem_of_getElem? hq1))
      have HSZ5 : Hid (w2.heap.size ≤ w5.heap.size) := Lib.hid (by have h1 := hr5.turns.size; have h2 := H4b.out.t5.lt; omega)
      have hbx := (Below.refl w5.heap.size w5).alloc (Nat.le_refl _) (.cells #[.int .i64 xa, .int .i64 ya] 26)
      have HT5 := Lib.hid (H5.out.step hbx)
      have R7 := Lib.hid (Row.new w5 [.int .i64 xa, .int .i64 ya] 26)
      clear hz1 hr5 hapq hcl hq1 hbx
      go_upto_region 7 with (fail)
      refine wp_region_kept (S := fun w' => (w'.cell? ⟨w2.heap.size, 0, none⟩ = some (.slice (ov) ss.length cv) ∧ w'.cell? ⟨w5.heap.size, 0, none⟩ = some (.int .i64 xa) ∧ w'.cell? ⟨w5.heap.size, 1, none⟩ = some (.int .i64 ya)) ∧ HoldsPlaces w' bl offl L) 20 (by kernel_rfl) ?_
      have HI0 := Lib.hid (HT5.out.step ((Below.refl _ _).drew))
      have hpl0 := HI0.out.places
      have hS0 := And.intro (And.intro (HI0.out.t5.cell (i := 0) (v := .slice ov ss.length cv) (by rfl)) (And.intro (cell_drew (R7.out.cell (i := 0) (v := .int .i64 xa) (by rfl))) (cell_drew (R7.out.cell (i := 1) (v := .int .i64 ya) (by rfl))))) hpl0
      refine KeptAny.take (i := 0) (v := ?_) (by kernel_rfl) rfl rfl (by kernel_rfl) (by kernel_rfl) (by kernel_rfl) (fun _ _ _ h => h) (by rfl) (fun w' hw' => ?_) (fun _ => rfl) hS0 ?_
      rotate_left
      · (obtain ⟨⟨g0, g1, g2⟩, g3⟩ := hw'; go_simp; try with_reducible rfl)
      refine KeptAny.take (i := 1) (v := ?_) (by kernel_rfl) rfl rfl (by kernel_rfl) (by kernel_rfl) (by kernel_rfl) (fun _ _ _ h => h) (by rfl) (fun w' hw' => ?_) (fun _ => rfl) hS0 ?_
      rotate_left
      · (obtain ⟨⟨g0, g1, g2⟩, g3⟩ := hw'; go_simp; try with_reducible rfl)
      refine KeptAny.take (i := 2) (v := ?_) (by kernel_rfl) rfl rfl (by kernel_rfl) (by kernel_rfl) (by kernel_rfl) (fun _ _ _ h => h) (by rfl) (fun w' hw' => ?_) (fun _ => rfl) hS0 ?_
      rotate_left
      · (obtain ⟨⟨g0, g1, g2⟩, g3⟩ := hw'; go_simp; try with_reducible rfl)
      refine KeptAny.take (i := 3) (v := ?_) (by kernel_rfl) rfl rfl (by kernel_rfl) (by kernel_rfl) (by kernel_rfl) (fun _ _ _ h => h) (by rfl) (fun w' hw' => ?_) (fun _ => rfl) hS0 ?_
      rotate_left
      · (obtain ⟨⟨g0, g1, g2⟩, g3⟩ := hw'; go_simp; try with_reducible rfl)
      refine KeptAny.take (i := 4) (v := ?_) (by kernel_rfl) rfl rfl (by kernel_rfl) (by kernel_rfl) (by kernel_rfl) (fun _ _ _ h => h) (by rfl) (fun w' hw' => ?_) (fun _ => rfl) hS0 ?_
      rotate_left
      · (obtain ⟨⟨g0, g1, g2⟩, g3⟩ := hw'; go_simp; try with_reducible rfl)
      refine KeptAny.take (i := 5) (v := ?_) (by kernel_rfl) rfl rfl (by kernel_rfl) (by kernel_rfl) (by kernel_rfl) (fun _ _ _ h => h) (by rfl) (fun w' hw' => ?_) (fun _ => rfl) hS0 ?_
      rotate_left
      · (obtain ⟨⟨g0, g1, g2⟩, g3⟩ := hw'; go_simp; try with_reducible rfl)
      clear hS0 hpl0
      refine KeptAny.one (i := 6) (by kernel_rfl) rfl (by rfl) (fun K hK => ?_)
      go_simp
      refine ⟨trivial, ?_⟩
      obtain ⟨q7, hq7, hrd7⟩ := HI0.out.rd.rd
      have hC := (callsIn_wide (n := 5)).2 (pick_any hrd7 (by omega) (L.length : Int) (by omega))
      refine hC.mono ?_
      have HQ7 := Lib.hid hq7
      clear hC hrd7 hq7
      rintro e w6 ⟨z2, rfl, -, hz2, hr6⟩
      have hzl2 : z2 < L.length := by have := hz2 (by omega); omega
      have HT6 := Lib.hid (HI0.out.turn (HI0.out.rd.asked HQ7.out hr6 (by omega)) hr6.turns)
      obtain ⟨q2, hq2⟩ : ∃ q, L[z2]? = some q := ⟨_, List.getElem?_eq_getElem hzl2⟩
      obtain ⟨xb, yb⟩ := q2
      have HI2 := Lib.hid (HSM.out _ (List.mem_of_getElem? hq2))
      have R76 := Lib.hid ((R7.out.below ((Below.refl _ _).drew) R7.out.lt).asked hr6.turns (by have h1 := HT5.out.far; have h2 := HT5.out.low; have h3 := HSZ5.out; omega))
      have hS6 := And.intro (And.intro (HT6.out.t5.cell (i := 0) (v := .slice ov ss.length cv) (by rfl)) (And.intro (R76.out.cell (i := 0) (v := .int .i64 xa) (by rfl)) (R76.out.cell (i := 1) (v := .int .i64 ya) (by rfl)))) HT6.out.places
      clear hr6 hz2
      refine hK.out _ _ hS6 (fun _ => ?_)
      clear hK
      refine KeptAny.take (i := 7) (v := ?_) (by kernel_rfl) rfl rfl (by kernel_rfl) (by kernel_rfl) (by kernel_rfl) (fun _ _ _ h => h) (by rfl) (fun w' hw' => ?_) (fun _ => rfl) hS6 ?_
      rotate_left
      · (obtain ⟨⟨g0, g1, g2⟩, g3⟩ := hw'; go_simp; try with_reducible rfl)
      refine KeptAny.take (i := 8) (v := ?_) (by kernel_rfl) rfl rfl (by kernel_rfl) (by kernel_rfl) (by kernel_rfl) (fun _ _ _ h => h) (by rfl) (fun w' hw' => ?_) (fun _ => rfl) hS6 ?_
      rotate_left
      · (obtain ⟨⟨g0, g1, g2⟩, g3⟩ := hw'; obtain ⟨g4, g5⟩ := g3 z2 (xb, yb) hq2; clear g3; go_simp; try with_reducible rfl)
      clear hS6
      obtain ⟨W1, W2, W3, hW1, hW2, hW3, E2, E3, E4, F3, F4, EG, EB⟩ := HT6.out.stored xa ya xb yb
      have HEND := Lib.hid (And.intro EG EB)
      have q2 := HT6.out.t2.cell (i := 0) (v := .slice none 0 0) (by rfl)
      have f2 := HT6.out.t2.frozen 0
      have q30 := F3.cell (i := 0) (v := .int .i64 0) (by rfl)
      have q31 := F3.cell (i := 1) (v := .int .i64 0) (by rfl)
      have q40 := F4.cell (i := 0) (v := .int .i64 0) (by rfl)
      have q41 := F4.cell (i := 1) (v := .int .i64 0) (by rfl)
      have f3 : ∀ k, W1.frozen? ⟨w.heap.size + 1, k, none⟩ = false := fun k => F3.frozen k
      have f4 : ∀ k, W2.frozen? ⟨w.heap.size + 2, k, none⟩ = false := fun k => F4.frozen k
      have e2 := E2.cell (i := 0) (v := .slice ov ss.length cv) (by rfl)
      have e30 := E3.cell (i := 0) (v := .int .i64 xa) (by rfl)
      have e31 := E3.cell (i := 1) (v := .int .i64 ya) (by rfl)
      have e40 := E4.cell (i := 0) (v := .int .i64 xb) (by rfl)
      have e41 := E4.cell (i := 1) (v := .int .i64 yb) (by rfl)
      clear EG EB E2 E3 E4 F3 F4
      have hfar : w.heap.size + 2 < w2.heap.size ∧ w.heap.size + 2 < w5.heap.size := ⟨HT6.out.low, by have h1 := HT6.out.low; have h3 := HSZ5.out; omega⟩
      have RX1 := (HT6.out.t5.other (a := ⟨w.heap.size, 0, none⟩) (show w.heap.size ≠ w2.heap.size by omega) (.slice ov ss.length cv))
      have RX2 := (RX1.other (a := ⟨w.heap.size + 1, 0, none⟩) (show w.heap.size + 1 ≠ w2.heap.size by omega) (.int .i64 xa)).other (a := ⟨w.heap.size + 1, 1, none⟩) (show w.heap.size + 1 ≠ w2.heap.size by omega) (.int .i64 ya)
      have RX3 := (RX2.other (a := ⟨w.heap.size + 2, 0, none⟩) (show w.heap.size + 2 ≠ w2.heap.size by omega) (.int .i64 xb)).other (a := ⟨w.heap.size + 2, 1, none⟩) (show w.heap.size + 2 ≠ w2.heap.size by omega) (.int .i64 yb)
      have RY1 := (R76.out.other (a := ⟨w.heap.size, 0, none⟩) (show w.heap.size ≠ w5.heap.size by omega) (.slice ov ss.length cv))
      have RY2 := (RY1.other (a := ⟨w.heap.size + 1, 0, none⟩) (show w.heap.size + 1 ≠ w5.heap.size by omega) (.int .i64 xa)).other (a := ⟨w.heap.size + 1, 1, none⟩) (show w.heap.size + 1 ≠ w5.heap.size by omega) (.int .i64 ya)
      have RY3 := (RY2.other (a := ⟨w.heap.size + 2, 0, none⟩) (show w.heap.size + 2 ≠ w5.heap.size by omega) (.int .i64 xb)).other (a := ⟨w.heap.size + 2, 1, none⟩) (show w.heap.size + 2 ≠ w5.heap.size by omega) (.int .i64 yb)
      have hx1 := And.intro (RX1.cell (i := 0) (v := .slice ov ss.length cv) (by rfl)) (And.intro (RY1.cell (i := 0) (v := .int .i64 xa) (by rfl)) (RY1.cell (i := 1) (v := .int .i64 ya) (by rfl)))
      have hx2 := And.intro (RX2.cell (i := 0) (v := .slice ov ss.length cv) (by rfl)) (And.intro (RY2.cell (i := 0) (v := .int .i64 xa) (by rfl)) (RY2.cell (i := 1) (v := .int .i64 ya) (by rfl)))
      have hx3 := And.intro (RX3.cell (i := 0) (v := .slice ov ss.length cv) (by rfl)) (And.intro (RY3.cell (i := 0) (v := .int .i64 xa) (by rfl)) (RY3.cell (i := 1) (v := .int .i64 ya) (by rfl)))
      have HP := Lib.hid (HT6.out.kept xa ya xb yb)
      have HX := Lib.hid (And.intro hx1 (And.intro hx2 hx3))
      subst hW1 hW2 hW3
      clear RX1 RX2 RX3 RY1 RY2 RY3 hx1 hx2 hx3 hfar
      refine KeptAny.one (i := 9) (by kernel_rfl) rfl (by rfl) (fun K hK => ?_)
      go_simp
      refine hK.out _ _ ⟨HX.out.1, HP.out.1⟩ (fun _ => ?_)
      clear hK
      refine KeptAny.one (i := 10) (by kernel_rfl) rfl (by rfl) (fun K hK => ?_)
      go_simp
      refine hK.out _ _ ⟨HX.out.2.1, HP.out.2.1⟩ (fun _ => ?_)
      clear hK
      refine KeptAny.one (i := 11) (by kernel_rfl) rfl (by rfl) (fun K hK => ?_)
      go_simp
      refine hK.out _ _ ⟨HX.out.2.2, HP.out.2.2⟩ (fun _ => ?_)
      clear hK
      refine KeptAny.done (by kernel_rfl) ?_ _
      go_wp2
      exact bodyPost_ret (v := .tuple #[.agg #[.slice ov ss.length cv], .agg #[.int .i64 xa, .int .i64 ya], .agg #[.int .i64 xb, .int .i64 yb]]) (by simp [results, Tryz.results69, go_sem, e2, e30, e31, e40, e41]) rfl ⟨ss, _, _, xa, ya, xb, yb, rfl, ⟨_, HEND.out.1⟩, HLL.out, ⟨HI1.out.1, HI1.out.2, HI2.out.1, HI2.out.2⟩, HEND.out.2⟩
def DrawnT (w : World) (e : Ending) (w' : World) : Prop := ∃ ss ov cv a b c d, e = .returned (.tuple #[.agg #[.slice ov (List.length ss) cv], .agg #[.int .i64 a, .int .i64 b], .agg #[.int .i64 c, .int .i64 d]]) ∧ HoldsScopes w' ov ss ∧ Lit1 210 ss ∧ (I64 a ∧ I64 b ∧ I64 c ∧ I64 d) ∧ Below w.heap.size w w'
set_option maxRecDepth 100000 in
set_option maxHeartbeats 8000000 in
theorem drawShare_any {w : World} {oa : Option Addr} {len cap : Nat} (h : HoldsBytes w oa len) (hl : len ≤ 2 ^ 62) (hlc : len ≤ cap) : Calls Tryz.prog 27 #[.slice oa len cap] w (DrawnT w) := by
  have hbA : Below w.heap.size w (((w.alloc (.cells #[.slice none 0 0] 33)).alloc (.cells #[.int .i64 0, .int .i64 0] 26)).alloc (.cells #[.int .i64 0, .int .i64 0] 26)) := (((Below.refl _ _).alloc (Nat.le_refl _) _).alloc (by simp) _).alloc (by simp; omega) _
  have RA := Lib.hid (((Row.new w [.slice none 0 0] 33).alloc (.cells #[.int .i64 0, .int .i64 0] 26)).alloc (.cells #[.int .i64 0, .int .i64 0] 26))
  have hRB := (Row.new (w.alloc (.cells #[.slice none 0 0] 33)) [.int .i64 0, .int .i64 0] 26).alloc (.cells #[.int .i64 0, .int .i64 0] 26)
  rw [World.size_alloc] at hRB
  have RB := Lib.hid hRB
  have hRC := Row.new ((w.alloc (.cells #[.slice none 0 0] 33)).alloc (.cells #[.int .i64 0, .int .i64 0] 26)) [.int .i64 0, .int .i64 0] 26
  rw [World.size_alloc, World.size_alloc] at hRC
  have RC := Lib.hid hRC
  have C := Lib.hid (open_any (h.below hbA) hl hlc)
  have HBA := Lib.hid hbA
  clear h hbA hl hlc hRB hRC
  go_enter Tryz.func27, Tryz.ntmps27
  go_wp2_with fail
  refine C.out.mono ?_
  rintro e w1 ⟨r, ob, n, c, rfl, hr, hrd, hb1⟩
  have HBR := Lib.hid (HBA.out.trans (hb1.mono HBA.out.size))
  have R1 := Lib.hid (RA.out.below hb1 RA.out.lt)
  have R1b := Lib.hid (RB.out.below hb1 RB.out.lt)
  have R1c := Lib.hid (RC.out.below hb1 RC.out.lt)
  have C2 := Lib.hid (two_any hrd (by omega))
  have HRR := Lib.hid (show w.heap.size + 2 < r by simp at hr; omega)
  clear hr hrd hb1
  go_wp2_with fail
  refine C2.out.mono ?_
  rintro e w2 ⟨ss, ov, cv, x, y, x2, y2, rfl, ⟨hs, hh⟩, hl, hxy, hbel⟩
  have hbl := hbel r (Nat.le_refl _)
  have R2 := Lib.hid (R1.out.below hbl (by have := HRR.out; omega))
  have R2b := Lib.hid (R1b.out.below hbl (by have := HRR.out; omega))
  have R2c := Lib.hid (R1c.out.below hbl HRR.out)
  have HB2 := Lib.hid (HBR.out.trans (hbel w.heap.size (by have := HRR.out; omega)))
  have HF := Lib.hid (And.intro hl hxy)
  obtain ⟨W1, W2, W3, hW1, hW2, hW3, E2, E3, E4, F3, F4, EG, EB⟩ := stored3 R2.out R2b.out R2c.out hh x y x2 y2
  have HEND := Lib.hid (And.intro EG (EB w.heap.size (Nat.le_refl _) w HB2.out))
  have q2 := R2.out.cell (i := 0) (v := .slice none 0 0) (by rfl)
  have f2 := R2.out.frozen 0
  have q30 := F3.cell (i := 0) (v := .int .i64 0) (by rfl)
  have q31 := F3.cell (i := 1) (v := .int .i64 0) (by rfl)
  have q40 := F4.cell (i := 0) (v := .int .i64 0) (by rfl)
  have q41 := F4.cell (i := 1) (v := .int .i64 0) (by rfl)
  have f3 : ∀ k, W1.frozen? ⟨w.heap.size + 1, k, none⟩ = false := fun k => F3.frozen k
  have f4 : ∀ k, W2.frozen? ⟨w.heap.size + 2, k, none⟩ = false := fun k => F4.frozen k
  have e2 := E2.cell (i := 0) (v := .slice ov ss.length cv) (by rfl)
  have e30 := E3.cell (i := 0) (v := .int .i64 x) (by rfl)
  have e31 := E3.cell (i := 1) (v := .int .i64 y) (by rfl)
  have e40 := E4.cell (i := 0) (v := .int .i64 x2) (by rfl)
  have e41 := E4.cell (i := 1) (v := .int .i64 y2) (by rfl)
  subst hW1 hW2 hW3
  clear hh hl hxy hbel hbl EG EB E2 E3 E4 F3 F4
  go_wp2
  obtain ⟨oe, ce, he, hH⟩ := HEND.out.1.holds
  cases he
  exact bodyPost_ret (v := .tuple #[.agg #[.slice ov ss.length cv], .agg #[.int .i64 x, .int .i64 y], .agg #[.int .i64 x2, .int .i64 y2]]) (by simp [results, Tryz.results27, go_sem, e2, e30, e31, e40, e41]) rfl ⟨ss, ov, cv, x, y, x2, y2, rfl, hH, HF.out.1, HF.out.2, HEND.out.2⟩
end Go.Proofs.YtjogfagjcpcihaaGreatDoor
