/-
  The walks of the given l1Some, l2Some, l3Name and l3Some. Condition: a source of numbers. The walk of the given DrawLookUp. Condition: the argument's memory holds bytes.
-/
import Derived.Test.YtoijapbffhkbbaaDoorWBad
namespace Go.Proofs.YtoijapbffhkbbaaDoor
open Go Go.RowKit Sg
theorem RdAt.trans {w w2 w3 : World} {r len cap P P' : Nat} {oa : Option Addr} (h : RdAt w w2 r oa len cap P) (k : RdAt w2 w3 r oa len cap P') : RdAt w w3 r oa len cap P' := ⟨h.org, k.now, k.small, h.turns.trans k.turns⟩
set_option maxRecDepth 100000 in
theorem some_any {w : World} {r : Nat} {oa : Option Addr} {len cap p : Nat} (h : Rd w r oa len cap p) (hp : p ≤ 700000) : Calls Tryd.prog 105 #[.pointer (some ⟨r, 0, none⟩)] w (Bad1 w r oa len cap p 210) := by
  have hbA := (Below.refl w.heap.size w).alloc (Nat.le_refl _) (.cells #[.slice none 0 0] 30)
  have RA := Lib.hid (Row.new w [.slice none 0 0] 30)
  have AT0 := Lib.hid ((RdAt.start h (Nat.le_refl p) (by omega)).step hbA)
  have C := Lib.hid (draw_any (h.below hbA) (by omega))
  have HRL := Lib.hid h.box.lt
  clear h hbA
  go_enter Tryd.func105, Tryd.ntmps105
  go_wp2_with fail
  refine C.out.mono ?_
  rintro e w2 ⟨ss, v, hs, rfl, hg, hl, hr2⟩
  obtain ⟨ov, cv, rfl, -⟩ := hg.holds
  have AT2 := Lib.hid (AT0.out.trans hr2)
  have R2 := Lib.hid (RA.out.asked hr2.turns (by have := HRL.out; omega))
  obtain ⟨p2, hp2, hrd2⟩ := AT2.out.rd
  have C2 := Lib.hid (bad_any hrd2 (by omega) hg.held hl)
  clear hg hl hr2 hrd2
  go_wp2_with fail
  refine C2.out.mono ?_
  rintro e w3 ⟨tt, v3, ks, rfl, hg3, hl3, hr3⟩
  obtain ⟨o3, c3, rfl, -⟩ := hg3.holds
  have AT3 := Lib.hid ((AT2.out.trans hr3).more (P' := p + 210) (by omega) (by omega))
  have R3 := Lib.hid (R2.out.asked hr3.turns (by have := HRL.out; omega))
  have HG3 := Lib.hid (hg3.lower (B' := w.heap.size) AT2.out.turns.size)
  have HL3 := Lib.hid hl3
  have t2 := R3.out.cell (i := 0) (v := .slice none 0 0) (by rfl)
  have f2 := R3.out.frozen 0
  have d2 := (R3.out.set 0 (.slice o3 tt.length c3)).cell (i := 0) (v := .slice o3 tt.length c3) (by rfl)
  have HG4 := Lib.hid (HG3.out.other R3.out (by decide) (by decide) 0 (.slice o3 tt.length c3))
  have HR4 := Lib.hid (AT3.out.far ((Below.refl _ _).setCell (p := ⟨w.heap.size, 0, none⟩) (Nat.le_refl _) (.slice o3 tt.length c3)))
  clear hg3 hl3 hr3
  go_wp2
  exact bodyPost_ret (v := .agg #[.slice o3 tt.length c3]) (by simp [results, Tryd.results105, go_sem, d2]) rfl ⟨tt, _, ks, rfl, HG4.out, HL3.out, HR4.out⟩
def Some2 (w : World) (r : Nat) (oa : Option Addr) (len cap p n : Nat) (e : Ending) (w' : World) : Prop := ∃ ss v hs s, e = .returned (.tuple #[.agg #[v], .int .i64 s]) ∧ HeldGr w' w.heap.size v ss hs ∧ Lit1 210 ss ∧ I64 s ∧ RdAt w w' r oa len cap (p + n)
def Some3 (w : World) (r : Nat) (oa : Option Addr) (len cap p n : Nat) (e : Ending) (w' : World) : Prop := ∃ ss v hs s nm, e = .returned (.tuple #[.agg #[v], .int .i64 s, .string nm]) ∧ HeldGr w' w.heap.size v ss hs ∧ Lit1 210 ss ∧ I64 s ∧ ByteArray.size nm ≤ 2 ∧ RdAt w w' r oa len cap (p + n)
structure SmAt (w W : World) (r : Nat) (oa : Option Addr) (len cap P n4 : Nat) (v : Value) (ss : List Sc) (hs : List Value) : Prop where
  rd : RdAt w W r oa len cap P
  t2 : Row W w.heap.size 30 [.slice none 0 0]
  t4 : Row W n4 30 [v]
  low : w.heap.size < n4
  gr : HeldGr W w.heap.size v ss hs
theorem SmAt.step {w W W' : World} {r len cap P n4 : Nat} {oa : Option Addr} {v : Value} {ss : List Sc} {hs : List Value} (h : SmAt w W r oa len cap P n4 v ss hs) (hb : Below W.heap.size W W') : SmAt w W' r oa len cap P n4 v ss hs :=
  ⟨h.rd.step hb, h.t2.below hb h.t2.lt, h.t4.below hb h.t4.lt, h.low, h.gr.below hb⟩
theorem SmAt.asked {w W W' : World} {r len cap P n4 n : Nat} {oa : Option Addr} {v : Value} {ss : List Sc} {hs : List Value} (h : SmAt w W r oa len cap P n4 v ss hs) {p' : Nat} (hp : p' ≤ P) (k : RdLeft W W' r oa len cap p' n) (hn : P + n ≤ 900000) : SmAt w W' r oa len cap (P + n) n4 v ss hs := by
  obtain ⟨p2, _, hr2⟩ := h.rd.now
  exact ⟨h.rd.asked hp k hn, h.t2.asked k.turns (fun e => by have := h.rd.lt; omega), h.t4.asked k.turns (fun e => by have := h.rd.lt; have := h.low; omega), h.low, h.gr.asked hr2 k.turns⟩
theorem some_num {L a b : Int} {x : Int} (hL : I64 L) (ha : I64 a) (hb : I64 b) (h : x ∈ [L, a, 0, 1, 2, b, -1, 6, 9223372036854775807]) : I64 x := by
  simp only [List.mem_cons, List.not_mem_nil, or_false] at h
  unfold I64 at *
  omega
set_option maxRecDepth 100000 in
set_option maxHeartbeats 4000000 in
theorem some2_any {w : World} {r : Nat} {oa : Option Addr} {len cap p : Nat} (h : Rd w r oa len cap p) (hp : p ≤ 700000) : Calls Tryd.prog 100 #[.pointer (some ⟨r, 0, none⟩)] w (Some2 w r oa len cap p 230) := by
  have hbA := (Below.refl w.heap.size w).alloc (Nat.le_refl _) (.cells #[.slice none 0 0] 30)
  have RA := Lib.hid (Row.new w [.slice none 0 0] 30)
  have AT0 := Lib.hid ((RdAt.start h (Nat.le_refl p) (by omega)).step hbA)
  have C := Lib.hid (some_any (h.below hbA) (by omega))
  have HRL := Lib.hid h.box.lt
  clear h hbA
  go_enter Tryd.func100, Tryd.ntmps100
  go_wp2_with fail
  refine C.out.mono ?_
  rintro e w2 ⟨ss, v, hs, rfl, hg, hl, hr2⟩
  obtain ⟨ov, cv, rfl, -⟩ := hg.holds
  have hbB := (Below.refl w2.heap.size w2).alloc (Nat.le_refl _) (.cells #[.slice ov ss.length cv] 30)
  have HA : Hid (SmAt w (w2.alloc (.cells #[.slice ov ss.length cv] 30)) r oa len cap (p + 210) w2.heap.size (.slice ov ss.length cv) ss hs) := Lib.hid
    ⟨(AT0.out.trans hr2).step hbB, (RA.out.asked hr2.turns (by have := HRL.out; omega)).alloc _, Row.new w2 _ _, by have := hr2.turns.size; simp at this; omega, (hg.lower (by simp)).below hbB⟩
  have hsl := hl.count
  have HLL := Lib.hid hl
  have hw1 : IntKind.i64.wrap (((ss.length : Nat) : Int) - 1) = ((ss.length : Nat) : Int) - 1 := IntWalk.i64_in _ (by omega)
  clear hg hl hr2 hbB
  go_upto_region 2 with (fail)
  refine wp_region_kept (S := fun w' => w'.cell? ⟨w2.heap.size, 0, none⟩ = some (.slice ov ss.length cv)) 20 (by kernel_rfl) ?_
  have HI0 := Lib.hid (HA.out.step ((Below.refl _ _).drew))
  have hS0 := (HI0.out.t4.cell (i := 0) (v := .slice ov ss.length cv) (by rfl))
  refine KeptAny.take (i := 0) (v := ?_) (by kernel_rfl) rfl rfl (by kernel_rfl) (by kernel_rfl) (by kernel_rfl) (fun _ _ _ h => h) (by rfl) (fun w' hw' => ?_) (fun _ => rfl) hS0 ?_
  rotate_left
  · (go_simp; try with_reducible rfl)
  refine KeptAny.take (i := 1) (v := ?_) (by kernel_rfl) rfl rfl (by kernel_rfl) (by kernel_rfl) (by kernel_rfl) (fun _ _ _ h => h) (by rfl) (fun w' hw' => ?_) (fun _ => rfl) hS0 ?_
  rotate_left
  · (go_simp; try with_reducible rfl)
  refine KeptAny.take (i := 2) (v := ?_) (by kernel_rfl) rfl rfl (by kernel_rfl) (by kernel_rfl) (by kernel_rfl) (fun _ _ _ h => h) (by rfl) (fun w' hw' => ?_) (fun _ => rfl) hS0 ?_
  rotate_left
  · (go_simp; try with_reducible rfl)
  refine KeptAny.take (i := 3) (v := ?_) (by kernel_rfl) rfl rfl (by kernel_rfl) (by kernel_rfl) (by kernel_rfl) (fun _ _ _ h => h) (by rfl) (fun w' hw' => ?_) (fun _ => rfl) hS0 ?_
  rotate_left
  · (go_simp; try with_reducible rfl)
  refine KeptAny.take (i := 4) (v := ?_) (by kernel_rfl) rfl rfl (by kernel_rfl) (by kernel_rfl) (by kernel_rfl) (fun _ _ _ h => h) (by rfl) (fun w' hw' => ?_) (fun _ => rfl) hS0 ?_
  rotate_left
  · (go_simp; try with_reducible rfl)
  refine KeptAny.take (i := 5) (v := ?_) (by kernel_rfl) rfl rfl (by kernel_rfl) (by kernel_rfl) (by kernel_rfl) (fun _ _ _ h => h) (by rfl) (fun w' hw' => ?_) (fun _ => rfl) hS0 ?_
  rotate_left
  · (go_simp; try with_reducible rfl)
  refine KeptAny.take (i := 6) (v := ?_) (by kernel_rfl) rfl rfl (by kernel_rfl) (by kernel_rfl) (by kernel_rfl) (fun _ _ _ h => h) (by rfl) (fun w' hw' => ?_) (fun _ => rfl) hS0 ?_
  rotate_left
  · (go_simp; try with_reducible rfl)
  refine KeptAny.take (i := 8) (v := ?_) (by kernel_rfl) rfl rfl (by kernel_rfl) (by kernel_rfl) (by kernel_rfl) (fun _ _ _ h => h) (by rfl) (fun w' hw' => ?_) (fun _ => rfl) hS0 ?_
  rotate_left
  · (go_simp; try with_reducible rfl)
  clear hS0
  refine KeptAny.one (i := 7) (by kernel_rfl) rfl (by rfl) (fun K hK => ?_)
  go_simp
  refine ⟨trivial, ?_⟩
  obtain ⟨q1, hq1, hrd1⟩ := HI0.out.rd.rd
  have hC := (callsIn_wide (n := 5)).2 (pick_any hrd1 (by omega) 6 (by omega))
  refine hC.mono ?_
  clear hC hrd1
  rintro e w11 ⟨a, rfl, -, ha, hr1⟩
  have HI1 := Lib.hid (HI0.out.asked hq1 hr1 (by omega))
  have HA1 := Lib.hid ha
  clear hr1 ha
  refine hK.out _ _ (HI1.out.t4.cell (i := 0) (v := .slice ov ss.length cv) (by rfl)) (fun _ => ?_)
  clear hK
  refine KeptAny.one (i := 9) (by kernel_rfl) rfl (by rfl) (fun K hK => ?_)
  go_simp
  refine ⟨trivial, ?_⟩
  obtain ⟨q2, hq2, hrd2⟩ := HI1.out.rd.rd
  have hC := (callsIn_wide (n := 5)).2 (pick_any hrd2 (by omega) 6 (by omega))
  refine hC.mono ?_
  clear hC hrd2
  rintro e w12 ⟨b, rfl, -, hb, hr2⟩
  have HI2 := Lib.hid (HI1.out.asked hq2 hr2 (by omega))
  have HB1 := Lib.hid hb
  clear hr2 hb
  refine hK.out _ _ (HI2.out.t4.cell (i := 0) (v := .slice ov ss.length cv) (by rfl)) (fun _ => ?_)
  clear hK
  refine KeptAny.one (i := 10) (by kernel_rfl) rfl (by rfl) (fun K hK => ?_)
  go_simp
  have HI3 := Lib.hid (HI2.out.step ((Below.refl _ _).alloc (Nat.le_refl _) (.cells #[.int .i64 ((ss.length : Int) - 1), .int .i64 (a : Int), .int .i64 0, .int .i64 1, .int .i64 2, .int .i64 (b : Int), .int .i64 (-1), .int .i64 6, .int .i64 9223372036854775807] 3)))
  refine hK.out _ _ (HI3.out.t4.cell (i := 0) (v := .slice ov ss.length cv) (by rfl)) (fun _ => ?_)
  clear hK
  refine KeptAny.one (i := 11) (by kernel_rfl) rfl (by rfl) (fun K hK => ?_)
  go_simp
  refine ⟨trivial, ?_⟩
  obtain ⟨q4, hq4, hrd4⟩ := HI2.out.rd.rd
  have hC := (callsIn_wide (n := 5)).2 (num_new hrd4 (by omega) [(ss.length : Int) - 1, (a : Int), 0, 1, 2, (b : Int), -1, 6, 9223372036854775807] (by simp) (by simp))
  refine hC.mono ?_
  clear hC hrd4
  rintro e w14 ⟨s, hs', rfl, hr4⟩
  have HI4 := Lib.hid (HI2.out.asked hq4 hr4 (by omega))
  have HSS := Lib.hid (some_num (by unfold I64; omega) (by have := HA1.out (by omega); unfold I64; omega) (by have := HB1.out (by omega); unfold I64; omega) hs')
  have t2 := HI4.out.t2.cell (i := 0) (v := .slice none 0 0) (by rfl)
  have f2 := HI4.out.t2.frozen 0
  have d2 := (HI4.out.t2.set 0 (.slice ov ss.length cv)).cell (i := 0) (v := .slice ov ss.length cv) (by rfl)
  have d4 := (HI4.out.t4.other (a := ⟨w.heap.size, 0, none⟩) (show w.heap.size ≠ w2.heap.size by have := HI4.out.low; omega) (.slice ov ss.length cv)).cell (i := 0) (v := .slice ov ss.length cv) (by rfl)
  have HG5 := Lib.hid (HI4.out.gr.other HI4.out.t2 (by decide) (by decide) 0 (.slice ov ss.length cv))
  have HR5 := Lib.hid ((HI4.out.rd.far ((Below.refl _ _).setCell (p := ⟨w.heap.size, 0, none⟩) (Nat.le_refl _) (.slice ov ss.length cv))).more (P' := p + 230) (by omega) (by omega))
  clear hr4 hs'
  refine hK.out _ _ (HI4.out.t4.cell (i := 0) (v := .slice ov ss.length cv) (by rfl)) (fun _ => ?_)
  clear hK
  refine KeptAny.one (i := 12) (by kernel_rfl) rfl (by rfl) (fun K hK => ?_)
  go_simp
  refine hK.out _ _ d4 (fun _ => ?_)
  clear hK f2 t2
  refine KeptAny.one (i := 13) (by kernel_rfl) rfl (by rfl) (fun K hK => ?_)
  go_simp
  refine hK.out _ _ d4 (fun _ => ?_)
  clear hK d4 hw1
  refine KeptAny.done (by kernel_rfl) ?_ _
  go_wp2
  exact bodyPost_ret (v := .tuple #[.agg #[.slice ov ss.length cv], .int .i64 s]) (by simp [results, Tryd.results100, go_sem, d2]) rfl ⟨ss, _, hs, s, rfl, HG5.out, HLL.out, HSS.out, HR5.out⟩
def Named1 (w : World) (r : Nat) (oa : Option Addr) (len cap p : Nat) (e : Ending) (w' : World) : Prop := ∃ nm : ByteArray, e = .returned (.string nm) ∧ nm.size ≤ 2 ∧ RdLeft w w' r oa len cap p 1
theorem name_size {nm : ByteArray} (h : nm ∈ ([⟨#[120]⟩, ⟨#[121]⟩, ⟨#[109]⟩, ⟨#[120]⟩, ⟨#[110]⟩, ⟨#[122]⟩, ⟨#[97]⟩, ⟨#[]⟩, ⟨#[88]⟩, ⟨#[120, 121]⟩] : List ByteArray)) : nm.size ≤ 2 := by
  simp only [List.mem_cons, List.not_mem_nil, or_false] at h
  rcases h with rfl | rfl | rfl | rfl | rfl | rfl | rfl | rfl | rfl | rfl <;> exact (by decide)
set_option maxRecDepth 100000 in
theorem name3_any {w : World} {r : Nat} {oa : Option Addr} {len cap p : Nat} (h : Rd w r oa len cap p) (hp : p ≤ 800000) : Calls Tryd.prog 137 #[.pointer (some ⟨r, 0, none⟩)] w (Named1 w r oa len cap p) := by
  have C := Lib.hid (of_new h (by omega) [⟨#[120]⟩, ⟨#[121]⟩, ⟨#[109]⟩, ⟨#[120]⟩, ⟨#[110]⟩, ⟨#[122]⟩, ⟨#[97]⟩, ⟨#[]⟩, ⟨#[88]⟩, ⟨#[120, 121]⟩] (by decide) (by decide))
  clear h
  go_enter Tryd.func137, Tryd.ntmps137
  go_wp2_with fail
  refine C.out.mono ?_
  rintro e w2 ⟨nm, hnm, rfl, hr⟩
  have HN := Lib.hid (name_size hnm)
  have HR := Lib.hid hr
  clear hnm hr
  go_wp2
  go_ret
  exact ⟨_, rfl, HN.out, HR.out⟩
set_option maxRecDepth 100000 in
set_option maxHeartbeats 4000000 in
theorem some3_any {w : World} {r : Nat} {oa : Option Addr} {len cap p : Nat} (h : Rd w r oa len cap p) (hp : p ≤ 600000) : Calls Tryd.prog 91 #[.pointer (some ⟨r, 0, none⟩)] w (Some3 w r oa len cap p 240) := by
  have hbA := (Below.refl w.heap.size w).alloc (Nat.le_refl _) (.cells #[.slice none 0 0] 30)
  have RA := Lib.hid (Row.new w [.slice none 0 0] 30)
  have AT0 := Lib.hid ((RdAt.start h (Nat.le_refl p) (by omega)).step hbA)
  have C := Lib.hid (some2_any (h.below hbA) (by omega))
  have HRL := Lib.hid h.box.lt
  clear h hbA
  go_enter Tryd.func91, Tryd.ntmps91
  go_wp2_with fail
  refine C.out.mono ?_
  rintro e w2 ⟨ss, v, hs, s, rfl, hg, hl, hsI, hr2⟩
  obtain ⟨ov, cv, rfl, -⟩ := hg.holds
  have hbB := (Below.refl w2.heap.size w2).alloc (Nat.le_refl _) (.cells #[.slice ov ss.length cv] 30)
  have HA : Hid (SmAt w (w2.alloc (.cells #[.slice ov ss.length cv] 30)) r oa len cap (p + 230) w2.heap.size (.slice ov ss.length cv) ss hs) := Lib.hid
    ⟨(AT0.out.trans hr2).step hbB, (RA.out.asked hr2.turns (by have := HRL.out; omega)).alloc _, Row.new w2 _ _, by have := hr2.turns.size; simp at this; omega, (hg.lower (by simp)).below hbB⟩
  have HLL := Lib.hid hl
  have HSS := Lib.hid hsI
  clear hg hl hr2 hbB hsI
  go_upto_region 2 with (fail)
  refine wp_region_kept (S := fun w' => w'.cell? ⟨w2.heap.size, 0, none⟩ = some (.slice ov ss.length cv)) 20 (by kernel_rfl) ?_
  have HI0 := Lib.hid (HA.out.step ((Below.refl _ _).drew))
  have hS0 := (HI0.out.t4.cell (i := 0) (v := .slice ov ss.length cv) (by rfl))
  refine KeptAny.take (i := 0) (v := ?_) (by kernel_rfl) rfl rfl (by kernel_rfl) (by kernel_rfl) (by kernel_rfl) (fun _ _ _ h => h) (by rfl) (fun w' hw' => ?_) (fun _ => rfl) hS0 ?_
  rotate_left
  · (go_simp; try with_reducible rfl)
  refine KeptAny.take (i := 1) (v := ?_) (by kernel_rfl) rfl rfl (by kernel_rfl) (by kernel_rfl) (by kernel_rfl) (fun _ _ _ h => h) (by rfl) (fun w' hw' => ?_) (fun _ => rfl) hS0 ?_
  rotate_left
  · (go_simp; try with_reducible rfl)
  refine KeptAny.take (i := 2) (v := ?_) (by kernel_rfl) rfl rfl (by kernel_rfl) (by kernel_rfl) (by kernel_rfl) (fun _ _ _ h => h) (by rfl) (fun w' hw' => ?_) (fun _ => rfl) hS0 ?_
  rotate_left
  · (go_simp; try with_reducible rfl)
  clear hS0
  refine KeptAny.one (i := 3) (by kernel_rfl) rfl (by rfl) (fun K hK => ?_)
  go_simp
  refine ⟨trivial, ?_⟩
  obtain ⟨q4, hq4, hrd4⟩ := HI0.out.rd.rd
  have hC := (callsIn_wide (n := 5)).2 (name3_any hrd4 (by omega))
  refine hC.mono ?_
  clear hC hrd4
  rintro e w14 ⟨nm, rfl, hnm, hr4⟩
  have HI4 := Lib.hid (HI0.out.asked hq4 hr4 (by omega))
  have HNM := Lib.hid hnm
  have t2 := HI4.out.t2.cell (i := 0) (v := .slice none 0 0) (by rfl)
  have f2 := HI4.out.t2.frozen 0
  have d2 := (HI4.out.t2.set 0 (.slice ov ss.length cv)).cell (i := 0) (v := .slice ov ss.length cv) (by rfl)
  have d4 := (HI4.out.t4.other (a := ⟨w.heap.size, 0, none⟩) (show w.heap.size ≠ w2.heap.size by have := HI4.out.low; omega) (.slice ov ss.length cv)).cell (i := 0) (v := .slice ov ss.length cv) (by rfl)
  have HG5 := Lib.hid (HI4.out.gr.other HI4.out.t2 (by decide) (by decide) 0 (.slice ov ss.length cv))
  have HR5 := Lib.hid ((HI4.out.rd.far ((Below.refl _ _).setCell (p := ⟨w.heap.size, 0, none⟩) (Nat.le_refl _) (.slice ov ss.length cv))).more (P' := p + 240) (by omega) (by omega))
  clear hr4 hnm
  refine hK.out _ _ (HI4.out.t4.cell (i := 0) (v := .slice ov ss.length cv) (by rfl)) (fun _ => ?_)
  clear hK
  refine KeptAny.one (i := 4) (by kernel_rfl) rfl (by rfl) (fun K hK => ?_)
  go_simp
  refine hK.out _ _ d4 (fun _ => ?_)
  clear hK f2 t2
  refine KeptAny.one (i := 5) (by kernel_rfl) rfl (by rfl) (fun K hK => ?_)
  go_simp
  refine hK.out _ _ d4 (fun _ => ?_)
  clear hK
  refine KeptAny.one (i := 6) (by kernel_rfl) rfl (by rfl) (fun K hK => ?_)
  go_simp
  refine hK.out _ _ d4 (fun _ => ?_)
  clear hK d4
  refine KeptAny.done (by kernel_rfl) ?_ _
  go_wp2
  exact bodyPost_ret (v := .tuple #[.agg #[.slice ov ss.length cv], .int .i64 s, .string nm]) (by simp [results, Tryd.results91, go_sem, d2]) rfl ⟨ss, _, hs, s, nm, rfl, HG5.out, HLL.out, HSS.out, HNM.out, HR5.out⟩
end Go.Proofs.YtoijapbffhkbbaaDoor
namespace Go.Proofs.YtoijapbffhkbbaaDoor
open Go Go.RowKit Sg
def Drawn3 (w : World) (e : Ending) (w' : World) : Prop := ∃ ss ov cv s nm, e = .returned (.tuple #[.agg #[.slice ov (List.length ss) cv], .int .i64 s, .string nm]) ∧ HoldsScopes w' ov ss ∧ Lit1 210 ss ∧ I64 s ∧ ByteArray.size nm ≤ 2 ∧ Below w.heap.size w w'
end Go.Proofs.YtoijapbffhkbbaaDoor
