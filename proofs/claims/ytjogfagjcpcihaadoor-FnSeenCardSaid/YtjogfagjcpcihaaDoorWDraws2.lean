/-
  The walks of the given l1Some, l2Some, l3Name and l3Some. Condition: a source of numbers. The walk of the given DrawLookUp. Condition: the argument's memory holds bytes. The walks of the given functions that draw a graph and a number, or a name too. Condition: the argument's memory holds bytes. The walks of the given l1Place and DrawImportTarget. Condition: a source of numbers; the argument's memory holds the graph, or bytes.
-/
import Derived.Test.YtjogfagjcpcihaaDoorWBad
import Derived.Maps.AppendAt
namespace Go.Proofs.YtjogfagjcpcihaaDoor
open Go Go.RowKit Sg
theorem RdAt.trans {w w2 w3 : World} {r len cap P P' : Nat} {oa : Option Addr} (h : RdAt w w2 r oa len cap P) (k : RdAt w2 w3 r oa len cap P') : RdAt w w3 r oa len cap P' := ⟨h.org, k.now, k.small, h.turns.trans k.turns⟩
set_option maxRecDepth 100000 in
theorem some_any {w : World} {r : Nat} {oa : Option Addr} {len cap p : Nat} (h : Rd w r oa len cap p) (hp : p ≤ 700000) : Calls Tryd.prog 92 #[.pointer (some ⟨r, 0, none⟩)] w (Bad1 w r oa len cap p 210) := by
  have hbA := (Below.refl w.heap.size w).alloc (Nat.le_refl _) (.cells #[.slice none 0 0] 25)
  have RA := Lib.hid (Row.new w [.slice none 0 0] 25)
  have AT0 := Lib.hid ((RdAt.start h (Nat.le_refl p) (by omega)).step hbA)
  have C := Lib.hid (draw_any (h.below hbA) (by omega))
  have HRL := Lib.hid h.box.lt
  clear h hbA
  go_enter Tryd.func92, Tryd.ntmps92
  go_wp2_with fail
  refine C.out.mono ?_
  rintro e w2 ⟨ss, v, hs, rfl, hg, hl, hr2⟩
  obtain ⟨ov, cv, rfl, -⟩ := hg.holds
  have AT2 := Lib.hid (AT0.out.trans hr2)
  have R2 := Lib.hid (RA.out.asked hr2.turns (by have := HRL.out; omega))
  obtain ⟨p2, hp2, hrd2⟩ := AT2.out.rd
  have C2 := Lib.hid (bad_any hrd2 (by omega) hg.held hl)
  clear hg hl hr2 hrd2
  go_wp2_with fail
  refine C2.out.mono ?_
  rintro e w3 ⟨tt, v3, ks, rfl, hg3, hl3, hr3⟩
  obtain ⟨o3, c3, rfl, -⟩ := hg3.holds
  have AT3 := Lib.hid ((AT2.out.trans hr3).more (P' := p + 210) (by omega) (by omega))
  have R3 := Lib.hid (R2.out.asked hr3.turns (by have := HRL.out; omega))
  have HG3 := Lib.hid (hg3.lower (B' := w.heap.size) AT2.out.turns.size)
  have HL3 := Lib.hid hl3
  have t2 := R3.out.cell (i := 0) (v := .slice none 0 0) (by rfl)
  have f2 := R3.out.frozen 0
  have d2 := (R3.out.set 0 (.slice o3 tt.length c3)).cell (i := 0) (v := .slice o3 tt.length c3) (by rfl)
  have HG4 := Lib.hid (HG3.out.other R3.out (by decide) (by decide) 0 (.slice o3 tt.length c3))
  have HR4 := Lib.hid (AT3.out.far ((Below.refl _ _).setCell (p := ⟨w.heap.size, 0, none⟩) (Nat.le_refl _) (.slice o3 tt.length c3)))
  clear hg3 hl3 hr3
  go_wp2
  exact bodyPost_ret (v := .agg #[.slice o3 tt.length c3]) (by simp [results, Tryd.results92, go_sem, d2]) rfl ⟨tt, _, ks, rfl, HG4.out, HL3.out, HR4.out⟩
def Some2 (w : World) (r : Nat) (oa : Option Addr) (len cap p n : Nat) (e : Ending) (w' : World) : Prop := ∃ ss v hs s, e = .returned (.tuple #[.agg #[v], .int .i64 s]) ∧ HeldGr w' w.heap.size v ss hs ∧ Lit1 210 ss ∧ I64 s ∧ RdAt w w' r oa len cap (p + n)
def Some3 (w : World) (r : Nat) (oa : Option Addr) (len cap p n : Nat) (e : Ending) (w' : World) : Prop := ∃ ss v hs s nm, e = .returned (.tuple #[.agg #[v], .int .i64 s, .string nm]) ∧ HeldGr w' w.heap.size v ss hs ∧ Lit1 210 ss ∧ I64 s ∧ ByteArray.size nm ≤ 2 ∧ RdAt w w' r oa len cap (p + n)
structure SmAt (w W : World) (r : Nat) (oa : Option Addr) (len cap P n4 : Nat) (v : Value) (ss : List Sc) (hs : List Value) : Prop where
  rd : RdAt w W r oa len cap P
  t2 : Row W w.heap.size 25 [.slice none 0 0]
  t4 : Row W n4 25 [v]
  low : w.heap.size < n4
  gr : HeldGr W w.heap.size v ss hs
theorem SmAt.step {w W W' : World} {r len cap P n4 : Nat} {oa : Option Addr} {v : Value} {ss : List Sc} {hs : List Value} (h : SmAt w W r oa len cap P n4 v ss hs) (hb : Below W.heap.size W W') : SmAt w W' r oa len cap P n4 v ss hs :=
  ⟨h.rd.step hb, h.t2.below hb h.t2.lt, h.t4.below hb h.t4.lt, h.low, h.gr.below hb⟩
theorem SmAt.asked {w W W' : World} {r len cap P n4 n : Nat} {oa : Option Addr} {v : Value} {ss : List Sc} {hs : List Value} (h : SmAt w W r oa len cap P n4 v ss hs) {p' : Nat} (hp : p' ≤ P) (k : RdLeft W W' r oa len cap p' n) (hn : P + n ≤ 900000) : SmAt w W' r oa len cap (P + n) n4 v ss hs := by
  obtain ⟨p2, _, hr2⟩ := h.rd.now
  exact ⟨h.rd.asked hp k hn, h.t2.asked k.turns (fun e => by have := h.rd.lt; omega), h.t4.asked k.turns (fun e => by have := h.rd.lt; have := h.low; omega), h.low, h.gr.asked hr2 k.turns⟩
theorem some_num {L a b : Int} {x : Int} (hL : I64 L) (ha : I64 a) (hb : I64 b) (h : x ∈ [L, a, 0, 1, 2, b, -1, 6, 9223372036854775807]) : I64 x := by
  simp only [List.mem_cons, List.not_mem_nil, or_false] at h
  unfold I64 at *
  omega
set_option maxRecDepth 100000 in
set_option maxHeartbeats 4000000 in
theorem some2_any {w : World} {r : Nat} {oa : Option Addr} {len cap p : Nat} (h : Rd w r oa len cap p) (hp : p ≤ 700000) : Calls Tryd.prog 53 #[.pointer (some ⟨r, 0, none⟩)] w (Some2 w r oa len cap p 230) := by
  have hbA := (Below.refl w.heap.size w).alloc (Nat.le_refl _) (.cells #[.slice none 0 0] 25)
  have RA := Lib.hid (Row.new w [.slice none 0 0] 25)
  have AT0 := Lib.hid ((RdAt.start h (Nat.le_refl p) (by omega)).step hbA)
  have C := Lib.hid (some_any (h.below hbA) (by omega))
  have HRL := Lib.hid h.box.lt
  clear h hbA
  go_enter Tryd.func53, Tryd.ntmps53
  go_wp2_with fail
  refine C.out.mono ?_
  rintro e w2 ⟨ss, v, hs, rfl, hg, hl, hr2⟩
  obtain ⟨ov, cv, rfl, -⟩ := hg.holds
  have hbB := (Below.refl w2.heap.size w2).alloc (Nat.le_refl _) (.cells #[.slice ov ss.length cv] 25)
  have HA : Hid (SmAt w (w2.alloc (.cells #[.slice ov ss.length cv] 25)) r oa len cap (p + 210) w2.heap.size (.slice ov ss.length cv) ss hs) := Lib.hid
    ⟨(AT0.out.trans hr2).step hbB, (RA.out.asked hr2.turns (by have := HRL.out; omega)).alloc _, Row.new w2 _ _, by have := hr2.turns.size; simp at this; omega, (hg.lower (by simp)).below hbB⟩
  have hsl := hl.count
  have HLL := Lib.hid hl
  have hw1 : IntKind.i64.wrap (((ss.length : Nat) : Int) - 1) = ((ss.length : Nat) : Int) - 1 := IntWalk.i64_in _ (by omega)
  clear hg hl hr2 hbB
  go_upto_region 2 with (fail)
  refine wp_region_kept (S := fun w' => w'.cell? ⟨w2.heap.size, 0, none⟩ = some (.slice ov ss.length cv)) 20 (by kernel_rfl) ?_
  have HI0 := Lib.hid (HA.out.step ((Below.refl _ _).drew))
  have hS0 := (HI0.out.t4.cell (i := 0) (v := .slice ov ss.length cv) (by rfl))
  refine KeptAny.take (i := 0) (v := ?_) (by kernel_rfl) rfl rfl (by kernel_rfl) (by kernel_rfl) (by kernel_rfl) (fun _ _ _ h => h) (by rfl) (fun w' hw' => ?_) (fun _ => rfl) hS0 ?_
  rotate_left
  · (go_simp; try with_reducible rfl)
  refine KeptAny.take (i := 1) (v := ?_) (by kernel_rfl) rfl rfl (by kernel_rfl) (by kernel_rfl) (by kernel_rfl) (fun _ _ _ h => h) (by rfl) (fun w' hw' => ?_) (fun _ => rfl) hS0 ?_
  rotate_left
  · (go_simp; try with_reducible rfl)
  refine KeptAny.take (i := 2) (v := ?_) (by kernel_rfl) rfl rfl (by kernel_rfl) (by kernel_rfl) (by kernel_rfl) (fun _ _ _ h => h) (by rfl) (fun w' hw' => ?_) (fun _ => rfl) hS0 ?_
  rotate_left
  · (go_simp; try with_reducible rfl)
  refine KeptAny.take (i := 3) (v := ?_) (by kernel_rfl) rfl rfl (by kernel_rfl) (by kernel_rfl) (by kernel_rfl) (fun _ _ _ h => h) (by rfl) (fun w' hw' => ?_) (fun _ => rfl) hS0 ?_
  rotate_left
  · (go_simp; try with_reducible rfl)
  refine KeptAny.take (i := 4) (v := ?_) (by kernel_rfl) rfl rfl (by kernel_rfl) (by kernel_rfl) (by kernel_rfl) (fun _ _ _ h => h) (by rfl) (fun w' hw' => ?_) (fun _ => rfl) hS0 ?_
  rotate_left
  · (go_simp; try with_reducible rfl)
  refine KeptAny.take (i := 5) (v := ?_) (by kernel_rfl) rfl rfl (by kernel_rfl) (by kernel_rfl) (by kernel_rfl) (fun _ _ _ h => h) (by rfl) (fun w' hw' => ?_) (fun _ => rfl) hS0 ?_
  rotate_left
  · (go_simp; try with_reducible rfl)
  refine KeptAny.take (i := 6) (v := ?_) (by kernel_rfl) rfl rfl (by kernel_rfl) (by kernel_rfl) (by kernel_rfl) (fun _ _ _ h => h) (by rfl) (fun w' hw' => ?_) (fun _ => rfl) hS0 ?_
  rotate_left
  · (go_simp; try with_reducible rfl)
  refine KeptAny.take (i := 8) (v := ?_) (by kernel_rfl) rfl rfl (by kernel_rfl) (by kernel_rfl) (by kernel_rfl) (fun _ _ _ h => h) (by rfl) (fun w' hw' => ?_) (fun _ => rfl) hS0 ?_
  rotate_left
  · (go_simp; try with_reducible rfl)
  clear hS0
  refine KeptAny.one (i := 7) (by kernel_rfl) rfl (by rfl) (fun K hK => ?_)
  go_simp
  refine ⟨trivial, ?_⟩
  obtain ⟨q1, hq1, hrd1⟩ := HI0.out.rd.rd
  have hC := (callsIn_wide (n := 5)).2 (pick_any hrd1 (by omega) 6 (by omega))
  refine hC.mono ?_
  clear hC hrd1
  rintro e w11 ⟨a, rfl, -, ha, hr1⟩
  have HI1 := Lib.hid (HI0.out.asked hq1 hr1 (by omega))
  have HA1 := Lib.hid ha
  clear hr1 ha
  refine hK.out _ _ (HI1.out.t4.cell (i := 0) (v := .slice ov ss.length cv) (by rfl)) (fun _ => ?_)
  clear hK
  refine KeptAny.one (i := 9) (by kernel_rfl) rfl (by rfl) (fun K hK => ?_)
  go_simp
  refine ⟨trivial, ?_⟩
  obtain ⟨q2, hq2, hrd2⟩ := HI1.out.rd.rd
  have hC := (callsIn_wide (n := 5)).2 (pick_any hrd2 (by omega) 6 (by omega))
  refine hC.mono ?_
  clear hC hrd2
  rintro e w12 ⟨b, rfl, -, hb, hr2⟩
  have HI2 := Lib.hid (HI1.out.asked hq2 hr2 (by omega))
  have HB1 := Lib.hid hb
  clear hr2 hb
  refine hK.out _ _ (HI2.out.t4.cell (i := 0) (v := .slice ov ss.length cv) (by rfl)) (fun _ => ?_)
  clear hK
  refine KeptAny.one (i := 10) (by kernel_rfl) rfl (by rfl) (fun K hK => ?_)
  go_simp
  have HI3 := Lib.hid (HI2.out.step ((Below.refl _ _).alloc (Nat.le_refl _) (.cells #[.int .i64 ((ss.length : Int) - 1), .int .i64 (a : Int), .int .i64 0, .int .i64 1, .int .i64 2, .int .i64 (b : Int), .int .i64 (-1), .int .i64 6, .int .i64 9223372036854775807] 3)))
  refine hK.out _ _ (HI3.out.t4.cell (i := 0) (v := .slice ov ss.length cv) (by rfl)) (fun _ => ?_)
  clear hK
  refine KeptAny.one (i := 11) (by kernel_rfl) rfl (by rfl) (fun K hK => ?_)
  go_simp
  refine ⟨trivial, ?_⟩
  obtain ⟨q4, hq4, hrd4⟩ := HI2.out.rd.rd
  have hC := (callsIn_wide (n := 5)).2 (num_new hrd4 (by omega) [(ss.length : Int) - 1, (a : Int), 0, 1, 2, (b : Int), -1, 6, 9223372036854775807] (by simp) (by simp))
  refine hC.mono ?_
  clear hC hrd4
  rintro e w14 ⟨s, hs', rfl, hr4⟩
  have HI4 := Lib.hid (HI2.out.asked hq4 hr4 (by omega))
  have HSS := Lib.hid (some_num (by unfold I64; omega) (by have := HA1.out (by omega); unfold I64; omega) (by have := HB1.out (by omega); unfold I64; omega) hs')
  have t2 := HI4.out.t2.cell (i := 0) (v := .slice none 0 0) (by rfl)
  have f2 := HI4.out.t2.frozen 0
  have d2 := (HI4.out.t2.set 0 (.slice ov ss.length cv)).cell (i := 0) (v := .slice ov ss.length cv) (by rfl)
  have d4 := (HI4.out.t4.other (a := ⟨w.heap.size, 0, none⟩) (show w.heap.size ≠ w2.heap.size by have := HI4.out.low; omega) (.slice ov ss.length cv)).cell (i := 0) (v := .slice ov ss.length cv) (by rfl)
  have HG5 := Lib.hid (HI4.out.gr.other HI4.out.t2 (by decide) (by decide) 0 (.slice ov ss.length cv))
  have HR5 := Lib.hid ((HI4.out.rd.far ((Below.refl _ _).setCell (p := ⟨w.heap.size, 0, none⟩) (Nat.le_refl _) (.slice ov ss.length cv))).more (P' := p + 230) (by omega) (by omega))
  clear hr4 hs'
  refine hK.out _ _ (HI4.out.t4.cell (i := 0) (v := .slice ov ss.length cv) (by rfl)) (fun _ => ?_)
  clear hK
  refine KeptAny.one (i := 12) (by kernel_rfl) rfl (by rfl) (fun K hK => ?_)
  go_simp
  refine hK.out _ _ d4 (fun _ => ?_)
  clear hK f2 t2
  refine KeptAny.one (i := 13) (by kernel_rfl) rfl (by rfl) (fun K hK => ?_)
  go_simp
  refine hK.out _ _ d4 (fun _ => ?_)
  clear hK d4 hw1
  refine KeptAny.done (by kernel_rfl) ?_ _
  go_wp2
  exact bodyPost_ret (v := .tuple #[.agg #[.slice ov ss.length cv], .int .i64 s]) (by simp [results, Tryd.results53, go_sem, d2]) rfl ⟨ss, _, hs, s, rfl, HG5.out, HLL.out, HSS.out, HR5.out⟩
def Named1 (w : World) (r : Nat) (oa : Option Addr) (len cap p : Nat) (e : Ending) (w' : World) : Prop := ∃ nm : ByteArray, e = .returned (.string nm) ∧ nm.size ≤ 2 ∧ RdLeft w w' r oa len cap p 1
theorem name_size {nm : ByteArray} (h : nm ∈ ([⟨#[120]⟩, ⟨#[121]⟩, ⟨#[109]⟩, ⟨#[120]⟩, ⟨#[110]⟩, ⟨#[122]⟩, ⟨#[97]⟩, ⟨#[]⟩, ⟨#[88]⟩, ⟨#[120, 121]⟩] : List ByteArray)) : nm.size ≤ 2 := by
  simp only [List.mem_cons, List.not_mem_nil, or_false] at h
  rcases h with rfl | rfl | rfl | rfl | rfl | rfl | rfl | rfl | rfl | rfl <;> exact (by decide)
end Go.Proofs.YtjogfagjcpcihaaDoor
namespace Go.Proofs.YtjogfagjcpcihaaDoor
open Go Go.RowKit Sg
def Drawn3 (w : World) (e : Ending) (w' : World) : Prop := ∃ ss ov cv s nm, e = .returned (.tuple #[.agg #[.slice ov (List.length ss) cv], .int .i64 s, .string nm]) ∧ HoldsScopes w' ov ss ∧ Lit1 210 ss ∧ I64 s ∧ ByteArray.size nm ≤ 2 ∧ Below w.heap.size w w'
end Go.Proofs.YtjogfagjcpcihaaDoor
namespace Go.Proofs.YtjogfagjcpcihaaDoor
open Go Go.RowKit Sg
def Drawn2 (w : World) (e : Ending) (w' : World) : Prop := ∃ ss ov cv s, e = .returned (.tuple #[.agg #[.slice ov (List.length ss) cv], .int .i64 s]) ∧ HoldsScopes w' ov ss ∧ Lit1 210 ss ∧ I64 s ∧ Below w.heap.size w w'
set_option maxRecDepth 100000 in
theorem drawSeenFrom_any {w : World} {oa : Option Addr} {len cap : Nat} (h : HoldsBytes w oa len) (hl : len ≤ 2 ^ 62) (hlc : len ≤ cap) : Calls Tryd.prog 21 #[.slice oa len cap] w (Drawn2 w) := by
  have hbA := (Below.refl w.heap.size w).alloc (Nat.le_refl _) (.cells #[.slice none 0 0] 25)
  have RA := Lib.hid (Row.new w [.slice none 0 0] 25)
  have C := Lib.hid (open_any (h.below hbA) hl hlc)
  have HBA := Lib.hid hbA
  clear h hbA hl hlc
  go_enter Tryd.func21, Tryd.ntmps21
  go_wp2_with fail
  refine C.out.mono ?_
  rintro e w1 ⟨r, ob, n, c, rfl, hr, hrd, hb1⟩
  have HB1 := Lib.hid (HBA.out.trans (hb1.mono HBA.out.size))
  have R1 := Lib.hid (RA.out.below hb1 RA.out.lt)
  have C2 := Lib.hid (some2_any hrd (by omega))
  have HR := Lib.hid (show w.heap.size < r by simp at hr; omega)
  clear hr hrd hb1
  go_wp2_with fail
  refine C2.out.mono ?_
  rintro e w2 ⟨ss, v, hs, s, rfl, hg, hl, hsI, hr2⟩
  obtain ⟨ov, cv, rfl, -⟩ := hg.holds
  have R2 := Lib.hid (R1.out.asked hr2.turns (by have := HR.out; omega))
  have HB2 : Hid (Below w.heap.size w w2) := Lib.hid (HB1.out.trans (hr2.turns.below (by have := HR.out; omega) (by have := HR.out; omega) HB1.out.size))
  have HG := Lib.hid (hg.other R2.out (by decide) (by decide) 0 (.slice ov ss.length cv))
  have HE := Lib.hid (HB2.out.setCell (p := ⟨w.heap.size, 0, none⟩) (Nat.le_refl _) (.slice ov ss.length cv))
  have t2 := R2.out.cell (i := 0) (v := .slice none 0 0) (by rfl)
  have f2 := R2.out.frozen 0
  have d2 := (R2.out.set 0 (.slice ov ss.length cv)).cell (i := 0) (v := .slice ov ss.length cv) (by rfl)
  have HLL := Lib.hid hl
  have HSS := Lib.hid hsI
  clear hg hl hr2 hsI
  go_wp2
  obtain ⟨oe, ce, he, hH⟩ := HG.out.holds
  cases he
  exact bodyPost_ret (v := .tuple #[.agg #[.slice ov ss.length cv], .int .i64 s]) (by simp [results, Tryd.results21, go_sem, d2]) rfl ⟨ss, _, _, s, rfl, hH, HLL.out, HSS.out, HE.out⟩
set_option maxRecDepth 100000 in
theorem drawBlocksOf_any {w : World} {oa : Option Addr} {len cap : Nat} (h : HoldsBytes w oa len) (hl : len ≤ 2 ^ 62) (hlc : len ≤ cap) : Calls Tryd.prog 12 #[.slice oa len cap] w (Drawn2 w) := by
  have hbA := (Below.refl w.heap.size w).alloc (Nat.le_refl _) (.cells #[.slice none 0 0] 25)
  have RA := Lib.hid (Row.new w [.slice none 0 0] 25)
  have C := Lib.hid (open_any (h.below hbA) hl hlc)
  have HBA := Lib.hid hbA
  clear h hbA hl hlc
  go_enter Tryd.func12, Tryd.ntmps12
  go_wp2_with fail
  refine C.out.mono ?_
  rintro e w1 ⟨r, ob, n, c, rfl, hr, hrd, hb1⟩
  have HB1 := Lib.hid (HBA.out.trans (hb1.mono HBA.out.size))
  have R1 := Lib.hid (RA.out.below hb1 RA.out.lt)
  have C2 := Lib.hid (some2_any hrd (by omega))
  have HR := Lib.hid (show w.heap.size < r by simp at hr; omega)
  clear hr hrd hb1
  go_wp2_with fail
  refine C2.out.mono ?_
  rintro e w2 ⟨ss, v, hs, s, rfl, hg, hl, hsI, hr2⟩
  obtain ⟨ov, cv, rfl, -⟩ := hg.holds
  have R2 := Lib.hid (R1.out.asked hr2.turns (by have := HR.out; omega))
  have HB2 : Hid (Below w.heap.size w w2) := Lib.hid (HB1.out.trans (hr2.turns.below (by have := HR.out; omega) (by have := HR.out; omega) HB1.out.size))
  have HG := Lib.hid (hg.other R2.out (by decide) (by decide) 0 (.slice ov ss.length cv))
  have HE := Lib.hid (HB2.out.setCell (p := ⟨w.heap.size, 0, none⟩) (Nat.le_refl _) (.slice ov ss.length cv))
  have t2 := R2.out.cell (i := 0) (v := .slice none 0 0) (by rfl)
  have f2 := R2.out.frozen 0
  have d2 := (R2.out.set 0 (.slice ov ss.length cv)).cell (i := 0) (v := .slice ov ss.length cv) (by rfl)
  have HLL := Lib.hid hl
  have HSS := Lib.hid hsI
  clear hg hl hr2 hsI
  go_wp2
  obtain ⟨oe, ce, he, hH⟩ := HG.out.holds
  cases he
  exact bodyPost_ret (v := .tuple #[.agg #[.slice ov ss.length cv], .int .i64 s]) (by simp [results, Tryd.results12, go_sem, d2]) rfl ⟨ss, _, _, s, rfl, hH, HLL.out, HSS.out, HE.out⟩
end Go.Proofs.YtjogfagjcpcihaaDoor
namespace Go.Proofs.YtjogfagjcpcihaaDoor
open Go Go.RowKit Sg
def allPl (l : List (Nat × Nat × It)) : List (Int × Int) := l.map fun q => ((q.1 : Int), (q.2.1 : Int))
theorem allPl_snoc (l : List (Nat × Nat × It)) (q : Nat × Nat × It) : allPl (l ++ [q]) = allPl l ++ [((q.1 : Int), (q.2.1 : Int))] := by simp [allPl]
theorem allPl_length (l : List (Nat × Nat × It)) : (allPl l).length = l.length := by simp [allPl]
theorem own_ge {w : World} {base n size g : Nat} {e : TypeId} {v : Value} {xs : List Value} (h : w.ownsRow base e size v n xs) (hg : v.ownBlock = some g) : base ≤ g := by
  obtain ⟨_, h2 | ⟨g', c, cur, hv, hB, _⟩⟩ := h
  · rw [h2.1] at hg; simp [Value.ownBlock] at hg
  · rw [hv] at hg
    simp only [Value.ownBlock, Option.some.injEq] at hg
    omega
/-- What holds at the head of a round of either loop. -/
structure PlcAt (w wr : World) (ov : Option Addr) (cv n : Nat) (v : Value) (l : List (Int × Int)) : Prop where
  box : Row wr w.heap.size 25 [.slice ov n cv]
  res : Row wr (w.heap.size + 1) 32 [.int .i64 0, .int .i64 0]
  row : wr.ownsRow (w.heap.size + 2) 32 2 v l.length (placeCells l)
  below : Below w.heap.size w wr
  big : w.heap.size + 2 ≤ wr.heap.size
theorem PlcAt.step {w wr w' : World} {ov : Option Addr} {cv n : Nat} {v : Value} {l : List (Int × Int)} (h : PlcAt w wr ov cv n v l) (hb : Below wr.heap.size wr w') : PlcAt w w' ov cv n v l :=
  ⟨h.box.below hb h.box.lt, h.res.below hb h.res.lt, ownsRow_below h.row hb, h.below.trans (hb.mono h.below.size), Nat.le_trans h.big hb.size⟩
theorem PlcAt.push {w wr w' : World} {ov : Option Addr} {cv n : Nat} {v v' : Value} {l : List (Int × Int)} {x y : Int} (h : PlcAt w wr ov cv n v l) (hg : (wr.alloc (.cells #[.int .i64 x, .int .i64 y] 32)).grownBy w' v.ownBlock)
    (hown : w'.ownsRow (w.heap.size + 2) 32 2 v' (l.length + 1) (placeCells l ++ [.int .i64 x, .int .i64 y])) : PlcAt w w' ov cv n v' (l ++ [(x, y)]) where
  box := (h.box.alloc _).grown hg (fun e => by have := own_ge h.row e.symm; omega)
  res := (h.res.alloc _).grown hg (fun e => by have := own_ge h.row e.symm; omega)
  row := by rw [List.length_append, placeCells_snoc]; exact hown
  below := h.below.trans (below_append2 h.row hg (by omega) h.below.size)
  big := Nat.le_trans h.big (Nat.le_trans (by simp) hg.size)
theorem append_placeD {W : World} {base k : Nat} {v : Value} {xs : List Value} (hrow : W.ownsRow base 32 2 v k xs) (x y : Int) (hk : k < 1000000) (hbase : base ≤ W.heap.size) (ty : TypeId) :
    ∃ v' w', (Builtin.append_ #[46, 46] ty #[v, .slice (some ⟨W.heap.size, 0, none⟩) 1 1]).run Tryd.prog (W.alloc (.cells #[.int .i64 x, .int .i64 y] 32)) = .ok v' w' ∧ w'.ownsRow base 32 2 v' (k + 1) (xs ++ [.int .i64 x, .int .i64 y]) ∧ (W.alloc (.cells #[.int .i64 x, .int .i64 y] 32)).grownBy w' v.ownBlock := by
  obtain ⟨i0, hi, hz0, hz1, hz2⟩ := info_parts infoPl
  obtain ⟨v', w', hrun, h2, h3, _, _⟩ := run_append_own_at (P := Tryd.prog) (W.alloc (.cells #[.int .i64 x, .int .i64 y] 32)) base 46 ty 32 i0 (.agg #[.int .i64 0, .int .i64 0]) 2 16 Tryd.underlying46 hi hz0 hz1 hz2 rfl (by decide) v k xs (hrow.alloc _) ⟨W.heap.size, 0, none⟩ 1 1 [.int .i64 x, .int .i64 y] rfl (cells_new2 W _ _ _)
    (by intro u hu; simp only [List.mem_cons, List.mem_nil_iff, or_false] at hu; rcases hu with rfl | rfl <;> rfl) (by unfold maxLen; omega) (by omega) (by show base ≤ (W.alloc _).heap.size; simp; omega)
  exact ⟨v', w', hrun, h2, h3⟩
def Placed1 (w : World) (r : Nat) (oa : Option Addr) (len cap p : Nat) (e : Ending) (w' : World) : Prop := ∃ a b : Int, e = .returned (.agg #[.int .i64 a, .int .i64 b]) ∧ I64 a ∧ I64 b ∧ RdAt w w' r oa len cap (p + 3)
theorem i64_nat {n : Nat} (h : n ≤ 1000000) : I64 (n : Int) := by unfold I64; omega
theorem i64_num1 {x : Int} (h : x ∈ [(0 : Int), 1, -1, 6, 9223372036854775807]) : I64 x := by
  simp only [List.mem_cons, List.not_mem_nil, or_false] at h
  unfold I64
  omega
theorem i64_num2 {x : Int} (h : x ∈ [(0 : Int), 5, -1]) : I64 x := by
  simp only [List.mem_cons, List.not_mem_nil, or_false] at h
  unfold I64
  omega
end Go.Proofs.YtjogfagjcpcihaaDoor
namespace Go.Proofs.YtjogfagjcpcihaaDoor
open Go Go.RowKit
set_option maxRecDepth 100000 in
set_option maxHeartbeats 1600000 in
/-- Places of a kind, in graphs that need not be valid. -/
theorem l1Places210_any (ss : List Sc) (hn6 : ss.length ≤ 210) (hm5 : ∀ s ∈ ss, s.items.length ≤ 210) (oa : Option Addr) (cap : Nat) (kind : Int) (w : World) (hc : HoldsScopes w oa ss) :
    Calls Tryd.prog 58 #[.agg #[.slice oa ss.length cap], .int .i64 kind] w (PlsGot (plsP ss kind) w) := by
  have hb0 := ((Below.refl w.heap.size w).alloc (Nat.le_refl _) (.cells #[.slice oa ss.length cap] 25)).alloc (by simp) (.cells #[] 32)
  have hR0 := (Row.new w [.slice oa ss.length cap] 25).alloc (.cells #[] 32)
  have hown0 : ((w.alloc (.cells #[.slice oa ss.length cap] 25)).alloc (.cells #[] 32)).ownsRow w.heap.size 32 2 (.slice (some ⟨w.heap.size + 1, 0, none⟩) 0 0) 0 [] := by
    have h0 := World.ownsRow_made (base := w.heap.size) (e := 32) (size := 2) (w.alloc (.cells #[.slice oa ss.length cap] 25)) #[] 0 (by simp) (by unfold maxLen; omega) rfl
    rw [World.size_alloc] at h0
    exact h0
  have HP0 : Hid (PlsAt w ((w.alloc (.cells #[.slice oa ss.length cap] 25)).alloc (.cells #[] 32)) oa cap ss.length (.slice (some ⟨w.heap.size + 1, 0, none⟩) 0 0) []) := Lib.hid ⟨hR0, hown0, hb0⟩
  have HC := Lib.hid hc
  have HM := Lib.hid hm5
  have g00 := hR0.cell (i := 0) (by rfl)
  clear hc hm5 hb0 hR0 hown0
  go_enter Tryd.func58, Tryd.ntmps58
  go_wp2
  go_loopw [5, 14] (fun v i wr => ∃ k : Nat, i = .int .i64 k ∧ k ≤ ss.length ∧ Hid (PlsAt w wr oa cap ss.length v (plsOf kind (uptoP ss k 0)))) (fun _ i _ => ss.length - (intOf i).toNat)
  case atStart => exact ⟨0, rfl, Nat.zero_le _, Lib.hid (by rw [uptoP_start]; exact HP0.out)⟩
  case round =>
    obtain ⟨k, rfl, hk, hP⟩ := hrel
    by_cases hlt : k < ss.length
    · obtain ⟨s, hs⟩ : ∃ s, ss[k]? = some s := ⟨_, List.getElem?_eq_getElem hlt⟩
      obtain ⟨bb, off, rfl, hbb, hcell⟩ := HC.out.at (by omega)
      obtain ⟨oi, ci, a0, a1, hci⟩ := hcell k s hs
      have hil := HM.out s (List.mem_of_getElem? hs)
      have b0 := (hP.out.below.cell (p := ⟨bb, off + k * 2, none⟩) hbb).trans a0
      have b1 := (hP.out.below.cell (p := ⟨bb, off + k * 2 + 1, none⟩) hbb).trans a1
      have HS := Lib.hid hs
      have HI := Lib.hid hci
      have hbx := (Below.refl wr.heap.size wr).alloc (Nat.le_refl _) (.cells #[.int .i64 s.parent, .slice oi s.items.length ci] 40)
      have HP1 := Lib.hid (hP.out.step hbx)
      have hwr := hP.out.below.size
      clear hs hcell hci a0 a1 hbx
      go_wp2
      go_loopw [5, 22] (fun v i wr => ∃ j : Nat, i = .int .i64 j ∧ j ≤ s.items.length ∧ Hid (PlsAt w wr (some ⟨bb, off, none⟩) cap ss.length v (plsOf kind (uptoP ss k j)))) (fun _ i _ => s.items.length - (intOf i).toNat)
      case atStart => exact ⟨0, rfl, Nat.zero_le _, HP1⟩
      case round =>
        obtain ⟨j, rfl, hj, hP2⟩ := hrel
        by_cases hlt2 : j < s.items.length
        · obtain ⟨x, hx⟩ : ∃ x, s.items[j]? = some x := ⟨_, List.getElem?_eq_getElem hlt2⟩
          obtain ⟨b2, o2, rfl, hb2, hcell2⟩ := HI.out.at (by omega)
          obtain ⟨x0, x1, x2⟩ := hcell2 j x hx
          have y0 := (hP2.out.below.cell (p := ⟨b2, o2 + j * 3, none⟩) hb2).trans x0
          have y1 := (hP2.out.below.cell (p := ⟨b2, o2 + j * 3 + 1, none⟩) hb2).trans x1
          have y2 := (hP2.out.below.cell (p := ⟨b2, o2 + j * 3 + 2, none⟩) hb2).trans x2
          have hbx := (Below.refl wr.heap.size wr).alloc (Nat.le_refl _) (.cells #[.int .i64 x.kind, .string x.name, .int .i64 x.scope] 42)
          have HP3 := Lib.hid (hP2.out.step hbx)
          have hpl := Nat.le_trans (plsOf_length kind (uptoP ss k j)) (uptoP_bound (j := j) hn6 HM.out HS.out)
          have HST := Lib.hid (plsOf_snoc kind (uptoP ss k j) (k, j, x))
          have HNX := Lib.hid (uptoP_next HS.out hx)
          clear hx hcell2 x0 x1 x2 hbx
          by_cases he : x.kind = kind
          · have hq : (x.kind == kind) = true := by simpa using he
            have HE : Hid (plsOf kind (uptoP ss k (j + 1)) = plsOf kind (uptoP ss k j) ++ [((k : Int), (j : Int))]) := Lib.hid (by rw [HNX.out, HST.out, if_pos he])
            generalize hpe : plsOf kind (uptoP ss k j) = pre at hpl
            rw [hpe] at HP3 HE
            have hrow3 := HP3.out.row
            obtain ⟨i0, hi0, hz0, hz1, hz2⟩ := info_parts infoPl
            have hbs3 := HP3.out.below.size
            have hbs2 := hP2.out.below.size
            clear hpe he
            go_wp2_with (at_builtin; refine wpList_append_own _ rfl _ _ 46 rfl w.heap.size 32 i0 (.agg #[.int .i64 0, .int .i64 0]) 2 16 Tryd.underlying46 hi0 hz0 hz1 hz2 rfl (by decide) _ _ _ rfl (hrow3.alloc _) ⟨wr.heap.size + 1, 0, none⟩ 1 1 [.int .i64 (k : Int), .int .i64 (j : Int)] rfl rfl ?c1 ?c2 ?c3 ?c4 ?c5 ?_)
            all_goals try (case c1 => exact cells_new2 _ _ _ _)
            all_goals try (case c2 => first | (exact ⟨rfl, rfl⟩) | (intro u hu; simp only [List.mem_cons, List.mem_nil_iff, or_false] at hu; rcases hu with rfl | rfl <;> rfl))
            all_goals try (case c3 => unfold maxLen; omega)
            all_goals try (case c4 => omega)
            all_goals try (case c5 => first | omega | (simp only [World.size_alloc]; omega) | (simp; omega))
            intro v' w' hown' hgrow _
            have HP4 : Hid (PlsAt w w' (some ⟨bb, off, none⟩) cap ss.length v' (plsOf kind (uptoP ss k (j + 1)))) := Lib.hid {
              box := (HP3.out.box.alloc (.cells #[.int .i64 (k : Int), .int .i64 (j : Int)] 32)).grown hgrow (ownsRow_ne2 HP3.out.box (by decide) HP3.out.row)
              row := by rw [HE.out, List.length_append, placeCells_snoc]; exact hown'
              below := HP3.out.below.trans (below_append2 HP3.out.row hgrow (Nat.le_refl w.heap.size) hbs3) }
            clear hown' hgrow hrow3
            go_wp2
            go_roundw
            case rel => exact ⟨j + 1, by go_num, by omega, HP4⟩
            case measure => simp only [intOf]; omega
          · have hq : (x.kind == kind) = false := by simpa using he
            have HE : Hid (plsOf kind (uptoP ss k (j + 1)) = plsOf kind (uptoP ss k j)) := Lib.hid (by rw [HNX.out, HST.out, if_neg he, List.append_nil])
            clear he
            go_wp2
            go_roundw
            case rel => exact ⟨j + 1, by go_num, by omega, by rw [HE.out]; exact HP3⟩
            case measure => simp only [intOf]; omega
        · obtain rfl : j = s.items.length := by omega
          have HP2 : Hid (PlsAt w wr (some ⟨bb, off, none⟩) cap ss.length _ (plsOf kind (uptoP ss (k + 1) 0))) := Lib.hid (by have := hP2.out; rw [uptoP_scope HS.out] at this; exact this)
          go_wp2
          go_roundw
          case rel => exact ⟨k + 1, by go_num, by omega, HP2⟩
          case measure => simp only [intOf]; omega
    · obtain rfl : k = ss.length := by omega
      have HE := Lib.hid (uptoP_all ss)
      go_wp2
      go_ret
      exact ⟨_, rfl, by have := hP.out.row; rw [HE.out] at this; exact this, hP.out.below⟩
end Go.Proofs.YtjogfagjcpcihaaDoor
namespace Go.Proofs.YtjogfagjcpcihaaDoor
open Go Go.RowKit Sg
def DrawnP (w : World) (e : Ending) (w' : World) : Prop := ∃ ss ov cv a b, e = .returned (.tuple #[.agg #[.slice ov (List.length ss) cv], .agg #[.int .i64 a, .int .i64 b]]) ∧ HoldsScopes w' ov ss ∧ Lit1 210 ss ∧ I64 a ∧ I64 b ∧ Below w.heap.size w w'
structure SmP (w w0 W : World) (r : Nat) (oa : Option Addr) (len cap P n4 : Nat) (v : Value) (ss : List Sc) (hs : List Value) : Prop where
  rd : RdAt w0 W r oa len cap P
  t2 : Row W w.heap.size 25 [.slice none 0 0]
  t3 : Row W (w.heap.size + 1) 32 [.int .i64 0, .int .i64 0]
  t4 : Row W n4 25 [v]
  low : w.heap.size + 1 < n4
  gr : HeldGr W w.heap.size v ss hs
  far : w.heap.size + 1 < r
  ltw : r < w0.heap.size
theorem SmP.step {w w0 W W' : World} {r len cap P n4 : Nat} {oa : Option Addr} {v : Value} {ss : List Sc} {hs : List Value} (h : SmP w w0 W r oa len cap P n4 v ss hs) (hb : Below W.heap.size W W') : SmP w w0 W' r oa len cap P n4 v ss hs :=
  ⟨h.rd.step hb, h.t2.below hb h.t2.lt, h.t3.below hb h.t3.lt, h.t4.below hb h.t4.lt, h.low, h.gr.below hb, h.far, h.ltw⟩
theorem SmP.asked {w w0 W W' : World} {r len cap P n4 n : Nat} {oa : Option Addr} {v : Value} {ss : List Sc} {hs : List Value} (h : SmP w w0 W r oa len cap P n4 v ss hs) {p' : Nat} (hp : p' ≤ P) (k : RdLeft W W' r oa len cap p' n) (hn : P + n ≤ 900000) : SmP w w0 W' r oa len cap (P + n) n4 v ss hs := by
  obtain ⟨p2, _, hr2⟩ := h.rd.now
  exact ⟨h.rd.asked hp k hn, h.t2.asked k.turns (fun e => by have := h.far; omega), h.t3.asked k.turns (fun e => by have := h.far; omega), h.t4.asked k.turns (h.t4.neq hr2 (by decide)), h.low, h.gr.asked hr2 k.turns, h.far, h.ltw⟩
theorem setCell_far (W : World) {b o g : Nat} (h : b ≠ g) (v : Value) : (W.setCell ⟨g, 0, none⟩ v).cell? ⟨b, o, none⟩ = W.cell? ⟨b, o, none⟩ := World.cell?_of_block (a := ⟨b, o, none⟩) (Below.heap_setCell _ _ _ _ h)
theorem SmP.askedAt {w w0 W W' : World} {r len cap P P' n4 : Nat} {oa : Option Addr} {v : Value} {ss : List Sc} {hs : List Value} (h : SmP w w0 W r oa len cap P n4 v ss hs) (k : RdAt W W' r oa len cap P') : SmP w w0 W' r oa len cap P' n4 v ss hs := by
  obtain ⟨p2, _, hr2⟩ := h.rd.now
  exact ⟨h.rd.trans k, h.t2.asked k.turns (fun e => by have := h.far; omega), h.t3.asked k.turns (fun e => by have := h.far; omega), h.t4.asked k.turns (h.t4.neq hr2 (by decide)), h.low, h.gr.asked hr2 k.turns, h.far, h.ltw⟩
end Go.Proofs.YtjogfagjcpcihaaDoor
