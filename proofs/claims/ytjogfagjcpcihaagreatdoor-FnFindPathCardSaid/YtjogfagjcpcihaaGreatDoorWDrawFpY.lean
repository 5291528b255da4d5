/-
  The walks of the given DrawFindPath and DrawQualified: a small graph, a number and a short text; a small graph and a place. Condition: the code's memory holds bytes.
-/
import Derived.Test.YtjogfagjcpcihaaGreatDoorWDrawResY
import Derived.Test.YtjogfagjcpcihaaGreatDoorWQualY
namespace Go.Proofs.YtjogfagjcpcihaaGreatDoor
open Go Go.RowKit Sg
structure SmF (w w0 W : World) (r : Nat) (oa : Option Addr) (len cap P n4 : Nat) (v : Value) (ss : List Sc) (hs : List Value) : Prop where
  rd : RdAt w0 W r oa len cap P
  t2 : Row W w.heap.size 33 [.slice none 0 0]
  t4 : Row W n4 33 [v]
  low : w.heap.size < n4
  gr : HeldGr W w.heap.size v ss hs
  far : w.heap.size < r
theorem SmF.step {w w0 W W' : World} {r len cap P n4 : Nat} {oa : Option Addr} {v : Value} {ss : List Sc} {hs : List Value} (h : SmF w w0 W r oa len cap P n4 v ss hs) (hb : Below W.heap.size W W') : SmF w w0 W' r oa len cap P n4 v ss hs :=
  ⟨h.rd.step hb, h.t2.below hb h.t2.lt, h.t4.below hb h.t4.lt, h.low, h.gr.below hb, h.far⟩
theorem SmF.turn {w w0 W W' : World} {r len cap P P' n4 : Nat} {oa : Option Addr} {v : Value} {ss : List Sc} {hs : List Value} (h : SmF w w0 W r oa len cap P n4 v ss hs) (hrd : RdAt w0 W' r oa len cap P') (ht : Turns W W' r r) : SmF w w0 W' r oa len cap P' n4 v ss hs := by
  obtain ⟨p2, _, hr2⟩ := h.rd.now
  have hf := h.far
  exact ⟨hrd, h.t2.asked ht (by omega), h.t4.asked ht (h.t4.neq hr2 (by decide)), h.low, h.gr.asked hr2 ht, h.far⟩
def DrawnF (w : World) (e : Ending) (w' : World) : Prop := ∃ ss ov cv s T, e = .returned (.tuple #[.agg #[.slice ov (List.length ss) cv], .int .i64 s, .string T]) ∧ HoldsScopes w' ov ss ∧ Lit1 210 ss ∧ I64 s ∧ ByteArray.size T ≤ 20 ∧ Below w.heap.size w w'
theorem qual_size {ss : List Sc} {a b : Int} {T : ByteArray} {ok : Bool} (h : QualR ss a b T ok) : T.size ≤ 20 := by
  rcases h with ⟨hv, ⟨x, hx, _, rfl⟩, _⟩ | ⟨_, rfl, _⟩
  · obtain ⟨_, h1, h2⟩ := item_scope hv hx
    rw [ByteArray.size_append]
    omega
  · exact (by decide : (⟨#[]⟩ : ByteArray).size ≤ 20)
theorem fpath_size {nm : ByteArray} (h : nm ∈ ([⟨#[120]⟩, ⟨#[109, 120]⟩, ⟨#[110, 120]⟩, ⟨#[109, 109, 120]⟩, ⟨#[109, 121]⟩, ⟨#[]⟩, ⟨#[109, 88]⟩, ⟨#[120, 120]⟩] : List ByteArray)) : nm.size ≤ 20 := by
  simp only [List.mem_cons, List.not_mem_nil, or_false] at h
  rcases h with rfl | rfl | rfl | rfl | rfl | rfl | rfl | rfl <;> decide
set_option maxRecDepth 100000 in
set_option maxHeartbeats 16000000 in
theorem drawFind_any {w : World} {oa : Option Addr} {len cap : Nat} (h : HoldsBytes w oa len) (hl : len ≤ 2 ^ 62) (hlc : len ≤ cap) : Calls Tryz.prog 16 #[.slice oa len cap] w (DrawnF w) := by
  have hbA := (Below.refl w.heap.size w).alloc (Nat.le_refl _) (.cells #[.slice none 0 0] 33)
  have RA := Lib.hid (Row.new w [.slice none 0 0] 33)
  have C := Lib.hid (open_any (h.below hbA) hl hlc)
  have HBA := Lib.hid hbA
  clear h hbA hl hlc
  go_enter Tryz.func16, Tryz.ntmps16
  go_wp2_with fail
  refine C.out.mono ?_
  rintro e w1 ⟨r, ob, n, c, rfl, hr, hrd, hb1⟩
  have HB1 := Lib.hid (HBA.out.trans (hb1.mono HBA.out.size))
  have R1 := Lib.hid (RA.out.below hb1 RA.out.lt)
  have C2 := Lib.hid (some2_any hrd (by omega))
  have HR := Lib.hid (show w.heap.size < r by simp at hr; omega)
  clear hr hrd hb1
  go_wp2_with fail
  refine C2.out.mono ?_
  rintro e w2 ⟨ss, v, hs, s, rfl, hg, hl, hsI, hr2⟩
  obtain ⟨ov, cv, rfl, hh⟩ := hg.holds
  have hbB := (Below.refl w2.heap.size w2).alloc (Nat.le_refl _) (.cells #[.slice ov ss.length cv] 33)
  have HA : Hid (SmF w w1 (w2.alloc (.cells #[.slice ov ss.length cv] 33)) r ob n c (0 + 230) w2.heap.size (.slice ov ss.length cv) ss hs) := Lib.hid
    ⟨hr2.step hbB, (R1.out.asked hr2.turns (by have := HR.out; omega)).alloc _, Row.new w2 _ _, by have h1 := R1.out.lt; have h2 := hr2.turns.size; omega, (hg.lower HB1.out.size).below hbB, HR.out⟩
  have HLL := Lib.hid hl
  have HSS := Lib.hid hsI
  clear hg hl hr2 hbB hh hsI
  go_upto_region 3 with (fail)
  refine wp_region_kept (S := fun w' => w'.cell? ⟨w2.heap.size, 0, none⟩ = some (.slice ov ss.length cv)) 20 (by kernel_rfl) ?_
  have HI0 := Lib.hid (HA.out.step ((Below.refl _ _).drew))
  have hS0 := HI0.out.t4.cell (i := 0) (v := .slice ov ss.length cv) (by rfl)
  refine KeptAny.take (i := 0) (v := ?_) (by kernel_rfl) rfl rfl (by kernel_rfl) (by kernel_rfl) (by kernel_rfl) (fun _ _ _ h => h) (by rfl) (fun w' hw' => ?_) (fun _ => rfl) hS0 ?_
  rotate_left
  · (go_simp; try with_reducible rfl)
  refine KeptAny.take (i := 1) (v := ?_) (by kernel_rfl) rfl rfl (by kernel_rfl) (by kernel_rfl) (by kernel_rfl) (fun _ _ _ h => h) (by rfl) (fun w' hw' => ?_) (fun _ => rfl) hS0 ?_
  rotate_left
  · (go_simp; try with_reducible rfl)
  refine KeptAny.take (i := 2) (v := ?_) (by kernel_rfl) rfl rfl (by kernel_rfl) (by kernel_rfl) (by kernel_rfl) (fun _ _ _ h => h) (by rfl) (fun w' hw' => ?_) (fun _ => rfl) hS0 ?_
  rotate_left
  · (go_simp; try with_reducible rfl)
  clear hS0
  refine KeptAny.one (i := 3) (by kernel_rfl) rfl (by rfl) (fun K hK => ?_)
  go_simp
  refine ⟨trivial, ?_⟩
  obtain ⟨q3, hq3, hrd3⟩ := HI0.out.rd.rd
  obtain ⟨oq, cq, heq, hhq⟩ := HI0.out.gr.holds
  cases heq
  have hC := (callsIn_wide (n := 5)).2 (place1_any hrd3 (by omega) HLL.out (cv := cv) hhq)
  refine hC.mono ?_
  have HQ3 := Lib.hid hq3
  clear hC hrd3 hhq hq3
  rintro e w3 ⟨x, y, rfl, hx, hy, hr3⟩
  have HI3 := Lib.hid (HI0.out.turn (HI0.out.rd.trans hr3) hr3.turns)
  have HXY := Lib.hid (And.intro hx hy)
  clear hr3 hx hy
  refine hK.out _ _ (HI3.out.t4.cell (i := 0) (v := .slice ov ss.length cv) (by rfl)) (fun _ => ?_)
  clear hK
  refine KeptAny.one (i := 4) (by kernel_rfl) rfl (by rfl) (fun K hK => ?_)
  go_simp
  refine ⟨trivial, ?_⟩
  obtain ⟨oq, cq, heq, hhq⟩ := HI3.out.gr.holds
  cases heq
  have hC := (callsIn_wide (n := 5)).2 (specQualified_any ss (HLL.out.fair (by omega)).fits ov cv x y _ hhq)
  refine hC.mono ?_
  clear hC hhq
  rintro e w4 ⟨T, ok, rfl, hT, hb4⟩
  have HI4 := Lib.hid (HI3.out.step hb4)
  have HT := Lib.hid (qual_size hT)
  clear hT hb4
  have hS4 := HI4.out.t4.cell (i := 0) (v := .slice ov ss.length cv) (by rfl)
  refine hK.out _ _ hS4 (fun _ => ?_)
  clear hK
  refine KeptAny.take (i := 5) (v := ?_) (by kernel_rfl) rfl rfl (by kernel_rfl) (by kernel_rfl) (by kernel_rfl) (fun _ _ _ h => h) (by rfl) (fun w' hw' => ?_) (fun _ => rfl) hS4 ?_
  rotate_left
  · (go_simp; try with_reducible rfl)
  refine KeptAny.take (i := 6) (v := ?_) (by kernel_rfl) rfl rfl (by kernel_rfl) (by kernel_rfl) (by kernel_rfl) (fun _ _ _ h => h) (by rfl) (fun w' hw' => ?_) (fun _ => rfl) hS4 ?_
  rotate_left
  · (go_simp; try with_reducible rfl)
  refine KeptAny.take (i := 7) (v := ?_) (by kernel_rfl) rfl rfl (by kernel_rfl) (by kernel_rfl) (by kernel_rfl) (fun _ _ _ h => h) (by rfl) (fun w' hw' => ?_) (fun _ => rfl) hS4 ?_
  rotate_left
  · (go_simp; try with_reducible rfl)
  refine KeptAny.one (i := 8) (by kernel_rfl) rfl (by rfl) (fun K hK => ?_)
  go_simp
  refine hK.out _ _ hS4 (fun _ => ?_)
  clear hK
  refine KeptAny.one (i := 9) (by kernel_rfl) rfl (by rfl) (fun K hK => ?_)
  go_simp
  refine hK.out _ _ hS4 (fun _ => ?_)
  clear hK
  clear hS4
  refine KeptAny.done (by kernel_rfl) ?_ _
  cases ok
  · go_upto_region 6 with (fail)
    refine wp_region_kept (S := fun w' => w'.cell? ⟨w2.heap.size, 0, none⟩ = some (.slice ov ss.length cv)) 20 (by kernel_rfl) ?_
    have HJ0 := Lib.hid (HI4.out.step ((Below.refl _ _).drew))
    have hS0 := HJ0.out.t4.cell (i := 0) (v := .slice ov ss.length cv) (by rfl)
    refine KeptAny.take (i := 0) (v := ?_) (by kernel_rfl) rfl rfl (by kernel_rfl) (by kernel_rfl) (by kernel_rfl) (fun _ _ _ h => h) (by rfl) (fun w' hw' => ?_) (fun _ => rfl) hS0 ?_
    rotate_left
    · (go_simp; try with_reducible rfl)
    refine KeptAny.take (i := 1) (v := ?_) (by kernel_rfl) rfl rfl (by kernel_rfl) (by kernel_rfl) (by kernel_rfl) (fun _ _ _ h => h) (by rfl) (fun w' hw' => ?_) (fun _ => rfl) hS0 ?_
    rotate_left
    · (go_simp; try with_reducible rfl)
    refine KeptAny.take (i := 2) (v := ?_) (by kernel_rfl) rfl rfl (by kernel_rfl) (by kernel_rfl) (by kernel_rfl) (fun _ _ _ h => h) (by rfl) (fun w' hw' => ?_) (fun _ => rfl) hS0 ?_
    rotate_left
    · (go_simp; try with_reducible rfl)
    clear hS0
    refine KeptAny.one (i := 3) (by kernel_rfl) rfl (by rfl) (fun K hK => ?_)
    go_simp
    refine hK.out _ _ ((HJ0.out.t4.alloc _).cell (i := 0) (v := .slice ov ss.length cv) (by rfl)) (fun _ => ?_)
    clear hK
    refine KeptAny.one (i := 4) (by kernel_rfl) rfl (by rfl) (fun K hK => ?_)
    go_simp
    refine ⟨trivial, ?_⟩
    obtain ⟨q6, hq6, hrd6⟩ := HJ0.out.rd.rd
    have hC := (callsIn_wide (n := 5)).2 (of_new hrd6 (by have := HQ3.out; omega) [⟨#[120]⟩, ⟨#[109, 120]⟩, ⟨#[110, 120]⟩, ⟨#[109, 109, 120]⟩, ⟨#[109, 121]⟩, ⟨#[]⟩, ⟨#[109, 88]⟩, ⟨#[120, 120]⟩] (by decide) (by decide))
    refine hC.mono ?_
    have HQ6 := Lib.hid hq6
    clear hC hrd6 hq6
    rintro e w6 ⟨nm, hnm, rfl, hr6⟩
    have HNM := Lib.hid (fpath_size hnm)
    have HI9 := Lib.hid (HJ0.out.turn (HJ0.out.rd.asked HQ6.out hr6 (by have := HQ3.out; omega)) hr6.turns)
    have HB9 : Hid (Below w.heap.size w w6) := Lib.hid (HB1.out.trans (HI9.out.rd.turns.below (by have := HR.out; omega) (by have := HR.out; omega) HB1.out.size))
    have t2 := HI9.out.t2.cell (i := 0) (v := .slice none 0 0) (by rfl)
    have f2 := HI9.out.t2.frozen 0
    have d2 := (HI9.out.t2.set 0 (.slice ov ss.length cv)).cell (i := 0) (v := .slice ov ss.length cv) (by rfl)
    have d4 := (HI9.out.t4.other (a := ⟨w.heap.size, 0, none⟩) (show w.heap.size ≠ w2.heap.size by have := HI9.out.low; omega) (.slice ov ss.length cv)).cell (i := 0) (v := .slice ov ss.length cv) (by rfl)
    have HG9 := Lib.hid (HI9.out.gr.other HI9.out.t2 (by decide) (by decide) 0 (.slice ov ss.length cv))
    have HE9 := Lib.hid (HB9.out.setCell (p := ⟨w.heap.size, 0, none⟩) (Nat.le_refl _) (.slice ov ss.length cv))
    clear hr6 hnm
    refine hK.out _ _ (HI9.out.t4.cell (i := 0) (v := .slice ov ss.length cv) (by rfl)) (fun _ => ?_)
    clear hK
    refine KeptAny.one (i := 5) (by kernel_rfl) rfl (by rfl) (fun K hK => ?_)
    go_simp
    refine hK.out _ _ d4 (fun _ => ?_)
    clear hK
    refine KeptAny.one (i := 6) (by kernel_rfl) rfl (by rfl) (fun K hK => ?_)
    go_simp
    refine hK.out _ _ d4 (fun _ => ?_)
    clear hK
    refine KeptAny.one (i := 7) (by kernel_rfl) rfl (by rfl) (fun K hK => ?_)
    go_simp
    refine hK.out _ _ d4 (fun _ => ?_)
    clear hK
    refine KeptAny.done (by kernel_rfl) ?_ _
    go_wp2
    obtain ⟨oe, ce, he, hH⟩ := HG9.out.holds
    cases he
    exact bodyPost_ret (v := .tuple #[.agg #[.slice ov ss.length cv], .int .i64 s, .string nm]) (by simp [results, Tryz.results16, go_sem, d2]) rfl ⟨ss, _, _, s, nm, rfl, hH, HLL.out, HSS.out, HNM.out, HE9.out⟩
  · obtain ⟨q5, hq5, hrd5⟩ := HI4.out.rd.rd
    have C5 := Lib.hid (pick_any hrd5 (by have := HQ3.out; omega) 2 (by decide))
    have HQ5 := Lib.hid hq5
    clear hrd5 hq5
    go_wp2_with fail
    refine C5.out.mono ?_
    rintro e w5 ⟨z, rfl, -, hz, hr5⟩
    have HI5 := Lib.hid (HI4.out.turn (HI4.out.rd.asked HQ5.out hr5 (by have := HQ3.out; omega)) hr5.turns)
    clear hz hr5
    by_cases hz0 : z = 0
    · have hz1 : ((z : Int) == 0) = true := by simpa using hz0
      clear hz0
      go_upto_region 5 with (fail)
      refine wp_region_kept (S := fun w' => w'.cell? ⟨w2.heap.size, 0, none⟩ = some (.slice ov ss.length cv)) 20 (by kernel_rfl) ?_
      have HJ0 := Lib.hid (HI5.out.step ((Below.refl _ _).drew))
      have hS0 := HJ0.out.t4.cell (i := 0) (v := .slice ov ss.length cv) (by rfl)
      refine KeptAny.take (i := 0) (v := ?_) (by kernel_rfl) rfl rfl (by kernel_rfl) (by kernel_rfl) (by kernel_rfl) (fun _ _ _ h => h) (by rfl) (fun w' hw' => ?_) (fun _ => rfl) hS0 ?_
      rotate_left
      · (go_simp; try with_reducible rfl)
      refine KeptAny.take (i := 1) (v := ?_) (by kernel_rfl) rfl rfl (by kernel_rfl) (by kernel_rfl) (by kernel_rfl) (fun _ _ _ h => h) (by rfl) (fun w' hw' => ?_) (fun _ => rfl) hS0 ?_
      rotate_left
      · (go_simp; try with_reducible rfl)
      refine KeptAny.take (i := 2) (v := ?_) (by kernel_rfl) rfl rfl (by kernel_rfl) (by kernel_rfl) (by kernel_rfl) (fun _ _ _ h => h) (by rfl) (fun w' hw' => ?_) (fun _ => rfl) hS0 ?_
      rotate_left
      · (go_simp; try with_reducible rfl)
      refine KeptAny.take (i := 5) (v := ?_) (by kernel_rfl) rfl rfl (by kernel_rfl) (by kernel_rfl) (by kernel_rfl) (fun _ _ _ h => h) (by rfl) (fun w' hw' => ?_) (fun _ => rfl) hS0 ?_
      rotate_left
      · (go_simp; try with_reducible rfl)
      clear hS0
      refine KeptAny.one (i := 3) (by kernel_rfl) rfl (by rfl) (fun K hK => ?_)
      go_simp
      refine hK.out _ _ ((HJ0.out.t4.alloc _).cell (i := 0) (v := .slice ov ss.length cv) (by rfl)) (fun _ => ?_)
      clear hK
      refine KeptAny.one (i := 4) (by kernel_rfl) rfl (by rfl) (fun K hK => ?_)
      go_simp
      refine ⟨trivial, ?_⟩
      obtain ⟨q6, hq6, hrd6⟩ := HJ0.out.rd.rd
      have hC := (callsIn_wide (n := 5)).2 (num_new hrd6 (by have := HQ3.out; omega) [0, s] (by simp) (by simp))
      refine hC.mono ?_
      have HQ6 := Lib.hid hq6
      clear hC hrd6 hq6
      rintro e w6 ⟨s6, hs6, rfl, hr6⟩
      have HS6 : Hid (I64 s6) := Lib.hid (by
        simp only [List.mem_cons, List.not_mem_nil, or_false] at hs6
        rcases hs6 with rfl | rfl
        · unfold I64; omega
        · exact HSS.out)
      have HI9 := Lib.hid (HJ0.out.turn (HJ0.out.rd.asked HQ6.out hr6 (by have := HQ3.out; omega)) hr6.turns)
      have HB9 : Hid (Below w.heap.size w w6) := Lib.hid (HB1.out.trans (HI9.out.rd.turns.below (by have := HR.out; omega) (by have := HR.out; omega) HB1.out.size))
      have t2 := HI9.out.t2.cell (i := 0) (v := .slice none 0 0) (by rfl)
      have f2 := HI9.out.t2.frozen 0
      have d2 := (HI9.out.t2.set 0 (.slice ov ss.length cv)).cell (i := 0) (v := .slice ov ss.length cv) (by rfl)
      have d4 := (HI9.out.t4.other (a := ⟨w.heap.size, 0, none⟩) (show w.heap.size ≠ w2.heap.size by have := HI9.out.low; omega) (.slice ov ss.length cv)).cell (i := 0) (v := .slice ov ss.length cv) (by rfl)
      have HG9 := Lib.hid (HI9.out.gr.other HI9.out.t2 (by decide) (by decide) 0 (.slice ov ss.length cv))
      have HE9 := Lib.hid (HB9.out.setCell (p := ⟨w.heap.size, 0, none⟩) (Nat.le_refl _) (.slice ov ss.length cv))
      clear hr6 hs6
      refine hK.out _ _ (HI9.out.t4.cell (i := 0) (v := .slice ov ss.length cv) (by rfl)) (fun _ => ?_)
      clear hK
      refine KeptAny.one (i := 6) (by kernel_rfl) rfl (by rfl) (fun K hK => ?_)
      go_simp
      refine hK.out _ _ d4 (fun _ => ?_)
      clear hK
      refine KeptAny.one (i := 7) (by kernel_rfl) rfl (by rfl) (fun K hK => ?_)
      go_simp
      refine hK.out _ _ d4 (fun _ => ?_)
      clear hK
      refine KeptAny.one (i := 8) (by kernel_rfl) rfl (by rfl) (fun K hK => ?_)
      go_simp
      refine hK.out _ _ d4 (fun _ => ?_)
      clear hK
      refine KeptAny.done (by kernel_rfl) ?_ _
      go_wp2
      obtain ⟨oe, ce, he, hH⟩ := HG9.out.holds
      cases he
      exact bodyPost_ret (v := .tuple #[.agg #[.slice ov ss.length cv], .int .i64 s6, .string T]) (by simp [results, Tryz.results16, go_sem, d2]) rfl ⟨ss, _, _, s6, T, rfl, hH, HLL.out, HS6.out, HT.out, HE9.out⟩
    · have hz1 : ((z : Int) == 0) = false := by simpa using hz0
      clear hz0
      go_upto_region 6 with (fail)
      refine wp_region_kept (S := fun w' => w'.cell? ⟨w2.heap.size, 0, none⟩ = some (.slice ov ss.length cv)) 20 (by kernel_rfl) ?_
      have HJ0 := Lib.hid (HI5.out.step ((Below.refl _ _).drew))
      have hS0 := HJ0.out.t4.cell (i := 0) (v := .slice ov ss.length cv) (by rfl)
      refine KeptAny.take (i := 0) (v := ?_) (by kernel_rfl) rfl rfl (by kernel_rfl) (by kernel_rfl) (by kernel_rfl) (fun _ _ _ h => h) (by rfl) (fun w' hw' => ?_) (fun _ => rfl) hS0 ?_
      rotate_left
      · (go_simp; try with_reducible rfl)
      refine KeptAny.take (i := 1) (v := ?_) (by kernel_rfl) rfl rfl (by kernel_rfl) (by kernel_rfl) (by kernel_rfl) (fun _ _ _ h => h) (by rfl) (fun w' hw' => ?_) (fun _ => rfl) hS0 ?_
      rotate_left
      · (go_simp; try with_reducible rfl)
      refine KeptAny.take (i := 2) (v := ?_) (by kernel_rfl) rfl rfl (by kernel_rfl) (by kernel_rfl) (by kernel_rfl) (fun _ _ _ h => h) (by rfl) (fun w' hw' => ?_) (fun _ => rfl) hS0 ?_
      rotate_left
      · (go_simp; try with_reducible rfl)
      clear hS0
      refine KeptAny.one (i := 3) (by kernel_rfl) rfl (by rfl) (fun K hK => ?_)
      go_simp
      refine hK.out _ _ ((HJ0.out.t4.alloc _).cell (i := 0) (v := .slice ov ss.length cv) (by rfl)) (fun _ => ?_)
      clear hK
      refine KeptAny.one (i := 4) (by kernel_rfl) rfl (by rfl) (fun K hK => ?_)
      go_simp
      refine ⟨trivial, ?_⟩
      obtain ⟨q6, hq6, hrd6⟩ := HJ0.out.rd.rd
      have hC := (callsIn_wide (n := 5)).2 (of_new hrd6 (by have := HQ3.out; omega) [⟨#[120]⟩, ⟨#[109, 120]⟩, ⟨#[110, 120]⟩, ⟨#[109, 109, 120]⟩, ⟨#[109, 121]⟩, ⟨#[]⟩, ⟨#[109, 88]⟩, ⟨#[120, 120]⟩] (by decide) (by decide))
      refine hC.mono ?_
      have HQ6 := Lib.hid hq6
      clear hC hrd6 hq6
      rintro e w6 ⟨nm, hnm, rfl, hr6⟩
      have HNM := Lib.hid (fpath_size hnm)
      have HI9 := Lib.hid (HJ0.out.turn (HJ0.out.rd.asked HQ6.out hr6 (by have := HQ3.out; omega)) hr6.turns)
      have HB9 : Hid (Below w.heap.size w w6) := Lib.hid (HB1.out.trans (HI9.out.rd.turns.below (by have := HR.out; omega) (by have := HR.out; omega) HB1.out.size))
      have t2 := HI9.out.t2.cell (i := 0) (v := .slice none 0 0) (by rfl)
      have f2 := HI9.out.t2.frozen 0
      have d2 := (HI9.out.t2.set 0 (.slice ov ss.length cv)).cell (i := 0) (v := .slice ov ss.length cv) (by rfl)
      have d4 := (HI9.out.t4.other (a := ⟨w.heap.size, 0, none⟩) (show w.heap.size ≠ w2.heap.size by have := HI9.out.low; omega) (.slice ov ss.length cv)).cell (i := 0) (v := .slice ov ss.length cv) (by rfl)
      have HG9 := Lib.hid (HI9.out.gr.other HI9.out.t2 (by decide) (by decide) 0 (.slice ov ss.length cv))
      have HE9 := Lib.hid (HB9.out.setCell (p := ⟨w.heap.size, 0, none⟩) (Nat.le_refl _) (.slice ov ss.length cv))
      clear hr6 hnm
      refine hK.out _ _ (HI9.out.t4.cell (i := 0) (v := .slice ov ss.length cv) (by rfl)) (fun _ => ?_)
      clear hK
      refine KeptAny.one (i := 5) (by kernel_rfl) rfl (by rfl) (fun K hK => ?_)
      go_simp
      refine hK.out _ _ d4 (fun _ => ?_)
      clear hK
      refine KeptAny.one (i := 6) (by kernel_rfl) rfl (by rfl) (fun K hK => ?_)
      go_simp
      refine hK.out _ _ d4 (fun _ => ?_)
      clear hK
      refine KeptAny.one (i := 7) (by kernel_rfl) rfl (by rfl) (fun K hK => ?_)
      go_simp
      refine hK.out _ _ d4 (fun _ => ?_)
      clear hK
      refine KeptAny.done (by kernel_rfl) ?_ _
      go_wp2
      obtain ⟨oe, ce, he, hH⟩ := HG9.out.holds
      cases he
      exact bodyPost_ret (v := .tuple #[.agg #[.slice ov ss.length cv], .int .i64 s, .string nm]) (by simp [results, Tryz.results16, go_sem, d2]) rfl ⟨ss, _, _, s, nm, rfl, hH, HLL.out, HSS.out, HNM.out, HE9.out⟩
set_option maxRecDepth 100000 in
set_option maxHeartbeats 8000000 in
theorem drawQualified_any {w : World} {oa : Option Addr} {len cap : Nat} (h : HoldsBytes w oa len) (hl : len ≤ 2 ^ 62) (hlc : len ≤ cap) : Calls Tryz.prog 19 #[.slice oa len cap] w (DrawnP w) := by
  have hbA : Below w.heap.size w ((w.alloc (.cells #[.slice none 0 0] 33)).alloc (.cells #[.int .i64 0, .int .i64 0] 26)) := ((Below.refl _ _).alloc (Nat.le_refl _) _).alloc (by simp) _
  have RA := Lib.hid ((Row.new w [.slice none 0 0] 33).alloc (.cells #[.int .i64 0, .int .i64 0] 26))
  have hRB := Row.new (w.alloc (.cells #[.slice none 0 0] 33)) [.int .i64 0, .int .i64 0] 26
  rw [World.size_alloc] at hRB
  have RB := Lib.hid hRB
  have C := Lib.hid (open_any (h.below hbA) hl hlc)
  have HBA := Lib.hid hbA
  clear h hbA hl hlc hRB
  go_enter Tryz.func19, Tryz.ntmps19
  go_wp2_with fail
  refine C.out.mono ?_
  rintro e w1 ⟨r, ob, n, c, rfl, hr, hrd, hb1⟩
  have HBR := Lib.hid (HBA.out.trans (hb1.mono HBA.out.size))
  have R1 := Lib.hid (RA.out.below hb1 RA.out.lt)
  have R1b := Lib.hid (RB.out.below hb1 RB.out.lt)
  have C2 := Lib.hid (some4_any hrd (by omega))
  have HRR := Lib.hid (show w.heap.size + 1 < r by simp at hr; omega)
  clear hr hrd hb1
  go_wp2_with fail
  refine C2.out.mono ?_
  rintro e w2 ⟨ss, ov, cv, a, b, rfl, ⟨hs, hh⟩, hl, ha, hb, hbel⟩
  have hbl := hbel r (Nat.le_refl _)
  have R2 := Lib.hid (R1.out.below hbl (by have := HRR.out; omega))
  have R2b := Lib.hid (R1b.out.below hbl HRR.out)
  have HB2 := Lib.hid (HBR.out.trans (hbel w.heap.size (by have := HRR.out; omega)))
  have HF := Lib.hid (And.intro hl (And.intro ha hb))
  have HH := Lib.hid ((((hh.other R2.out (by decide) (by decide) 0 (.slice ov ss.length cv)).other (R2b.out.other (a := ⟨w.heap.size, 0, none⟩) (by simp) (.slice ov ss.length cv)) (by decide) (by decide) 0 (.int .i64 a)).other ((R2b.out.other (a := ⟨w.heap.size, 0, none⟩) (by simp) (.slice ov ss.length cv)).set 0 (.int .i64 a)) (by decide) (by decide) 1 (.int .i64 b)))
  have n0 := R2.out.cell (i := 0) (v := .slice none 0 0) (by rfl)
  have f0 := R2.out.frozen 0
  have R3 := R2b.out.other (a := ⟨w.heap.size, 0, none⟩) (by simp) (.slice ov ss.length cv)
  have m0 := R3.cell (i := 0) (v := .int .i64 0) (by rfl)
  have m1 := R3.cell (i := 1) (v := .int .i64 0) (by rfl)
  have f3 : ∀ k, (w2.setCell ⟨w.heap.size, 0, none⟩ (.slice ov ss.length cv)).frozen? ⟨w.heap.size + 1, k, none⟩ = false := fun k => R3.frozen k
  have R3b := (R3.set 0 (.int .i64 a)).set 1 (.int .i64 b)
  have d30 := R3b.cell (i := 0) (v := .int .i64 a) (by rfl)
  have d31 := R3b.cell (i := 1) (v := .int .i64 b) (by rfl)
  have R2c := ((R2.out.set 0 (.slice ov ss.length cv)).other (a := ⟨w.heap.size + 1, 0, none⟩) (by simp) (.int .i64 a)).other (a := ⟨w.heap.size + 1, 1, none⟩) (by simp) (.int .i64 b)
  have d2 := R2c.cell (i := 0) (v := .slice ov ss.length cv) (by rfl)
  clear hh hl ha hb hbel hbl R3 R3b R2c
  go_wp2
  obtain ⟨oe, ce, he, hH⟩ := HH.out.holds
  cases he
  exact bodyPost_ret (v := .tuple #[.agg #[.slice ov ss.length cv], .agg #[.int .i64 a, .int .i64 b]]) (by simp [results, Tryz.results19, go_sem, d2, d30, d31]) rfl ⟨ss, ov, cv, a, b, rfl, hH, HF.out.1, HF.out.2.1, HF.out.2.2, ((HB2.out.setCell (Nat.le_refl _) _).setCell (by simp) _).setCell (by simp) _⟩
end Go.Proofs.YtjogfagjcpcihaaGreatDoor
