/-
  The walk of the given DrawCommonScope. Condition: the argument's memory holds bytes.
-/
import Derived.Test.YtmfglfhloahmlaaDoorWDraws2
namespace Go.Proofs.YtmfglfhloahmlaaDoor
open Go Go.RowKit Sg
def DrawnC (w : World) (e : Ending) (w' : World) : Prop := ∃ ss ov cv s b, e = .returned (.tuple #[.agg #[.slice ov (List.length ss) cv], .int .i64 s, .int .i64 b]) ∧ HoldsScopes w' ov ss ∧ Lit1 210 ss ∧ I64 s ∧ I64 b ∧ Below w.heap.size w w'
structure SmR (w w0 W : World) (r : Nat) (oa : Option Addr) (len cap P n4 : Nat) (v : Value) (ss : List Sc) (hs : List Value) : Prop where
  rd : RdAt w0 W r oa len cap P
  t2 : Row W w.heap.size 31 [.slice none 0 0]
  t4 : Row W n4 31 [v]
  low : w.heap.size < n4
  gr : HeldGr W w.heap.size v ss hs
  far : w.heap.size < r
theorem SmR.step {w w0 W W' : World} {r len cap P n4 : Nat} {oa : Option Addr} {v : Value} {ss : List Sc} {hs : List Value} (h : SmR w w0 W r oa len cap P n4 v ss hs) (hb : Below W.heap.size W W') : SmR w w0 W' r oa len cap P n4 v ss hs :=
  ⟨h.rd.step hb, h.t2.below hb h.t2.lt, h.t4.below hb h.t4.lt, h.low, h.gr.below hb, h.far⟩
theorem SmR.asked {w w0 W W' : World} {r len cap P n4 n : Nat} {oa : Option Addr} {v : Value} {ss : List Sc} {hs : List Value} (h : SmR w w0 W r oa len cap P n4 v ss hs) {p' : Nat} (hp : p' ≤ P) (k : RdLeft W W' r oa len cap p' n) (hn : P + n ≤ 900000) : SmR w w0 W' r oa len cap (P + n) n4 v ss hs := by
  obtain ⟨p2, _, hr2⟩ := h.rd.now
  exact ⟨h.rd.asked hp k hn, h.t2.asked k.turns (fun e => by have := h.far; omega), h.t4.asked k.turns (h.t4.neq hr2 (by decide)), h.low, h.gr.asked hr2 k.turns, h.far⟩
theorem common_num {n : Nat} {x : Int} (hn : n ≤ 210) (h : x ∈ [0, 1, 2, 3, (n : Int) - 1, -1]) : I64 x := by
  simp only [List.mem_cons, List.not_mem_nil, or_false] at h
  unfold I64
  omega
set_option maxRecDepth 100000 in
set_option maxHeartbeats 4000000 in
theorem drawCommon_any {w : World} {oa : Option Addr} {len cap : Nat} (h : HoldsBytes w oa len) (hl : len ≤ 2 ^ 62) (hlc : len ≤ cap) : Calls Tryd.prog 54 #[.slice oa len cap] w (DrawnC w) := by
  have hbA := (Below.refl w.heap.size w).alloc (Nat.le_refl _) (.cells #[.slice none 0 0] 31)
  have RA := Lib.hid (Row.new w [.slice none 0 0] 31)
  have C := Lib.hid (open_any (h.below hbA) hl hlc)
  have HBA := Lib.hid hbA
  clear h hbA hl hlc
  go_enter Tryd.func54, Tryd.ntmps54
  go_wp2_with fail
  refine C.out.mono ?_
  rintro e w1 ⟨r, ob, n, c, rfl, hr, hrd, hb1⟩
  have HBR := Lib.hid (HBA.out.trans (hb1.mono HBA.out.size))
  have R1 := Lib.hid (RA.out.below hb1 RA.out.lt)
  have C2 := Lib.hid (some2_any hrd (by omega))
  have HRR := Lib.hid (show w.heap.size < r by simp at hr; omega)
  clear hr hrd hb1
  go_wp2_with fail
  refine C2.out.mono ?_
  rintro e w2 ⟨ss, v, hs, s, rfl, hg, hl, hsI, hr2⟩
  obtain ⟨ov, cv, rfl, -⟩ := hg.holds
  have hbB := (Below.refl w2.heap.size w2).alloc (Nat.le_refl _) (.cells #[.slice ov ss.length cv] 31)
  have HA : Hid (SmR w w1 (w2.alloc (.cells #[.slice ov ss.length cv] 31)) r ob n c (0 + 230) w2.heap.size (.slice ov ss.length cv) ss hs) := Lib.hid
    ⟨hr2.step hbB, (R1.out.asked hr2.turns (by have := HRR.out; omega)).alloc _, Row.new w2 _ _, by have h1 := HBR.out.size; have h2 := hr2.turns.size; have h3 := R1.out.lt; omega, (hg.lower HBR.out.size).below hbB, HRR.out⟩
  have hsl := hl.count
  have HLL := Lib.hid hl
  have HSS := Lib.hid hsI
  have hw1 : IntKind.i64.wrap (((ss.length : Nat) : Int) - 1) = ((ss.length : Nat) : Int) - 1 := IntWalk.i64_in _ (by omega)
  clear hg hl hr2 hbB hsI
  go_upto_region 3 with (fail)
  refine wp_region_kept (S := fun w' => w'.cell? ⟨w2.heap.size, 0, none⟩ = some (.slice ov ss.length cv)) 20 (by kernel_rfl) ?_
  have HI0 := Lib.hid (HA.out.step ((Below.refl _ _).drew))
  have hS0 := (HI0.out.t4.cell (i := 0) (v := .slice ov ss.length cv) (by rfl))
  refine KeptAny.take (i := 0) (v := ?_) (by kernel_rfl) rfl rfl (by kernel_rfl) (by kernel_rfl) (by kernel_rfl) (fun _ _ _ h => h) (by rfl) (fun w' hw' => ?_) (fun _ => rfl) hS0 ?_
  rotate_left
  · (go_simp; try with_reducible rfl)
  refine KeptAny.take (i := 1) (v := ?_) (by kernel_rfl) rfl rfl (by kernel_rfl) (by kernel_rfl) (by kernel_rfl) (fun _ _ _ h => h) (by rfl) (fun w' hw' => ?_) (fun _ => rfl) hS0 ?_
  rotate_left
  · (go_simp; try with_reducible rfl)
  refine KeptAny.take (i := 2) (v := ?_) (by kernel_rfl) rfl rfl (by kernel_rfl) (by kernel_rfl) (by kernel_rfl) (fun _ _ _ h => h) (by rfl) (fun w' hw' => ?_) (fun _ => rfl) hS0 ?_
  rotate_left
  · (go_simp; try with_reducible rfl)
  refine KeptAny.take (i := 3) (v := ?_) (by kernel_rfl) rfl rfl (by kernel_rfl) (by kernel_rfl) (by kernel_rfl) (fun _ _ _ h => h) (by rfl) (fun w' hw' => ?_) (fun _ => rfl) hS0 ?_
  rotate_left
  · (go_simp; try with_reducible rfl)
  refine KeptAny.take (i := 4) (v := ?_) (by kernel_rfl) rfl rfl (by kernel_rfl) (by kernel_rfl) (by kernel_rfl) (fun _ _ _ h => h) (by rfl) (fun w' hw' => ?_) (fun _ => rfl) hS0 ?_
  rotate_left
  · (go_simp; try with_reducible rfl)
  refine KeptAny.take (i := 5) (v := ?_) (by kernel_rfl) rfl rfl (by kernel_rfl) (by kernel_rfl) (by kernel_rfl) (fun _ _ _ h => h) (by rfl) (fun w' hw' => ?_) (fun _ => rfl) hS0 ?_
  rotate_left
  · (go_simp; try with_reducible rfl)
  refine KeptAny.take (i := 6) (v := ?_) (by kernel_rfl) rfl rfl (by kernel_rfl) (by kernel_rfl) (by kernel_rfl) (fun _ _ _ h => h) (by rfl) (fun w' hw' => ?_) (fun _ => rfl) hS0 ?_
  rotate_left
  · (go_simp; try with_reducible rfl)
  clear hS0
  refine KeptAny.one (i := 7) (by kernel_rfl) rfl (by rfl) (fun K hK => ?_)
  go_simp
  have HI3 := Lib.hid (HI0.out.step ((Below.refl _ _).alloc (Nat.le_refl _) (.cells #[.int .i64 0, .int .i64 1, .int .i64 2, .int .i64 3, .int .i64 ((ss.length : Int) - 1), .int .i64 (-1)] 3)))
  refine hK.out _ _ (HI3.out.t4.cell (i := 0) (v := .slice ov ss.length cv) (by rfl)) (fun _ => ?_)
  clear hK
  refine KeptAny.one (i := 8) (by kernel_rfl) rfl (by rfl) (fun K hK => ?_)
  go_simp
  refine ⟨trivial, ?_⟩
  obtain ⟨q4, hq4, hrd4⟩ := HI0.out.rd.rd
  have hC := (callsIn_wide (n := 5)).2 (num_new hrd4 (by omega) [0, 1, 2, 3, (ss.length : Int) - 1, -1] (by simp) (by simp))
  rw [show ((w2.alloc (.cells #[.slice ov ss.length cv] 31)).drew).heap.size = w2.heap.size + 1 from World.size_alloc _ _] at hC
  refine hC.mono ?_
  clear hC hrd4
  rintro e w14 ⟨b, hb', rfl, hr4⟩
  have HI4 := Lib.hid (HI0.out.asked hq4 hr4 (by omega))
  have HBB := Lib.hid (common_num hsl hb')
  have t2 := HI4.out.t2.cell (i := 0) (v := .slice none 0 0) (by rfl)
  have f2 := HI4.out.t2.frozen 0
  have d2 := (HI4.out.t2.set 0 (.slice ov ss.length cv)).cell (i := 0) (v := .slice ov ss.length cv) (by rfl)
  have d4 := (HI4.out.t4.other (a := ⟨w.heap.size, 0, none⟩) (show w.heap.size ≠ w2.heap.size by have := HI4.out.low; omega) (.slice ov ss.length cv)).cell (i := 0) (v := .slice ov ss.length cv) (by rfl)
  have HG5 := Lib.hid (HI4.out.gr.other HI4.out.t2 (by decide) (by decide) 0 (.slice ov ss.length cv))
  have HE5 := Lib.hid ((HBR.out.trans (HI4.out.rd.turns.below (by have := HRR.out; omega) (by have := HRR.out; omega) HBR.out.size)).setCell (p := ⟨w.heap.size, 0, none⟩) (Nat.le_refl _) (.slice ov ss.length cv))
  clear hr4 hb'
  refine hK.out _ _ (HI4.out.t4.cell (i := 0) (v := .slice ov ss.length cv) (by rfl)) (fun _ => ?_)
  clear hK
  refine KeptAny.one (i := 9) (by kernel_rfl) rfl (by rfl) (fun K hK => ?_)
  go_simp
  refine hK.out _ _ d4 (fun _ => ?_)
  clear hK f2 t2
  refine KeptAny.one (i := 10) (by kernel_rfl) rfl (by rfl) (fun K hK => ?_)
  go_simp
  refine hK.out _ _ d4 (fun _ => ?_)
  clear hK
  refine KeptAny.one (i := 11) (by kernel_rfl) rfl (by rfl) (fun K hK => ?_)
  go_simp
  refine hK.out _ _ d4 (fun _ => ?_)
  clear hK d4 hw1
  refine KeptAny.done (by kernel_rfl) ?_ _
  go_wp2
  obtain ⟨oe, ce, he, hH⟩ := HG5.out.holds
  cases he
  exact bodyPost_ret (v := .tuple #[.agg #[.slice ov ss.length cv], .int .i64 s, .int .i64 b]) (by simp [results, Tryd.results54, go_sem, d2]) rfl ⟨ss, _, _, s, b, rfl, hH, HLL.out, HSS.out, HBB.out, HE5.out⟩
end Go.Proofs.YtmfglfhloahmlaaDoor
