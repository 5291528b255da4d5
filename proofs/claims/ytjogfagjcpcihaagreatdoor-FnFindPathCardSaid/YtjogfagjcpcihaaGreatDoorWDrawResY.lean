/-
  The walks of the given l4Some, DrawResolveItem and DrawNameOfState: a small graph and a place; a number. Condition: the code's memory holds bytes.
-/
import Derived.Test.YtjogfagjcpcihaaGreatDoorWDraws2Y
import Derived.Test.YtjogfagjcpcihaaGreatDoorJCY
namespace Go.Proofs.YtjogfagjcpcihaaGreatDoor
open Go Go.RowKit Sg
def Some4 (w : World) (r : Nat) (e : Ending) (w' : World) : Prop := ∃ ss ov cv a b, e = .returned (.tuple #[.agg #[.slice ov (List.length ss) cv], .agg #[.int .i64 a, .int .i64 b]]) ∧ (∃ hs, HeldGr w' w.heap.size (.slice ov (List.length ss) cv) ss hs) ∧ Lit1 210 ss ∧ I64 a ∧ I64 b ∧ ∀ N, N ≤ r → Below N w w'
structure SmQ (w W : World) (r : Nat) (oa : Option Addr) (len cap P n4 : Nat) (v : Value) (ss : List Sc) (hs : List Value) : Prop where
  rd : RdAt w W r oa len cap P
  t2 : Row W w.heap.size 33 [.slice none 0 0]
  t3 : Row W (w.heap.size + 1) 26 [.int .i64 0, .int .i64 0]
  t4 : Row W n4 33 [v]
  low : w.heap.size + 1 < n4
  gr : HeldGr W w.heap.size v ss hs
  far : r < w.heap.size
theorem SmQ.step {w W W' : World} {r len cap P n4 : Nat} {oa : Option Addr} {v : Value} {ss : List Sc} {hs : List Value} (h : SmQ w W r oa len cap P n4 v ss hs) (hb : Below W.heap.size W W') : SmQ w W' r oa len cap P n4 v ss hs :=
  ⟨h.rd.step hb, h.t2.below hb h.t2.lt, h.t3.below hb h.t3.lt, h.t4.below hb h.t4.lt, h.low, h.gr.below hb, h.far⟩
theorem SmQ.askedAt {w W W' : World} {r len cap P P' n4 : Nat} {oa : Option Addr} {v : Value} {ss : List Sc} {hs : List Value} (h : SmQ w W r oa len cap P n4 v ss hs) (k : RdAt W W' r oa len cap P') : SmQ w W' r oa len cap P' n4 v ss hs := by
  obtain ⟨p2, _, hr2⟩ := h.rd.now
  have hf := h.far
  exact ⟨h.rd.trans k, h.t2.asked k.turns (by omega), h.t3.asked k.turns (by omega), h.t4.asked k.turns (h.t4.neq hr2 (by decide)), h.low, h.gr.asked hr2 k.turns, h.far⟩
set_option maxRecDepth 100000 in
set_option maxHeartbeats 8000000 in
theorem some4_any {w : World} {r : Nat} {oa : Option Addr} {len cap p : Nat} (h : Rd w r oa len cap p) (hp : p ≤ 600000) : Calls Tryz.prog 59 #[.pointer (some ⟨r, 0, none⟩)] w (Some4 w r) := by
  have hbA : Below w.heap.size w ((w.alloc (.cells #[.slice none 0 0] 33)).alloc (.cells #[.int .i64 0, .int .i64 0] 26)) := ((Below.refl _ _).alloc (Nat.le_refl _) _).alloc (by simp) _
  have RA := Lib.hid ((Row.new w [.slice none 0 0] 33).alloc (.cells #[.int .i64 0, .int .i64 0] 26))
  have hRB := Row.new (w.alloc (.cells #[.slice none 0 0] 33)) [.int .i64 0, .int .i64 0] 26
  rw [World.size_alloc] at hRB
  have RB := Lib.hid hRB
  have C2 := Lib.hid (some_any (h.below hbA) (by omega))
  have AT0 := Lib.hid ((RdAt.start h (Nat.le_refl p) (by omega)).step hbA)
  have HRL : Hid (r < w.heap.size) := Lib.hid h.box.lt
  have hbs := hbA.size
  have HBS := Lib.hid hbs
  clear h hbA hRB hbs
  go_enter Tryz.func59, Tryz.ntmps59
  go_wp2_with fail
  refine C2.out.mono ?_
  rintro e w2 ⟨ss, v, hs, rfl, hg, hl, hr2⟩
  obtain ⟨ov, cv, rfl, hh⟩ := hg.holds
  have hbB := (Below.refl w2.heap.size w2).alloc (Nat.le_refl _) (.cells #[.slice ov ss.length cv] 33)
  have HA : Hid (SmQ w (w2.alloc (.cells #[.slice ov ss.length cv] 33)) r oa len cap (p + 210) w2.heap.size (.slice ov ss.length cv) ss hs) := Lib.hid
    ⟨(AT0.out.trans hr2).step hbB, (RA.out.asked hr2.turns (by have := HRL.out; omega)).alloc _, (RB.out.asked hr2.turns (by have := HRL.out; omega)).alloc _, Row.new w2 _ _, by have h1 := RB.out.lt; have h2 := hr2.turns.size; omega, (hg.lower HBS.out).below hbB, HRL.out⟩
  have HLL := Lib.hid hl
  clear hg hl hr2 hbB hh
  go_wp2
  refine wp_region_kept (S := fun w' => w'.cell? ⟨w2.heap.size, 0, none⟩ = some (.slice ov ss.length cv)) 20 (by kernel_rfl) ?_
  have HI0 := Lib.hid (HA.out.step ((Below.refl _ _).drew))
  have hS0 := HI0.out.t4.cell (i := 0) (v := .slice ov ss.length cv) (by rfl)
  refine KeptAny.take (i := 0) (v := ?_) (by kernel_rfl) rfl rfl (by kernel_rfl) (by kernel_rfl) (by kernel_rfl) (fun _ _ _ h => h) (by rfl) (fun w' hw' => ?_) (fun _ => rfl) hS0 ?_
  rotate_left
  · (go_simp; try with_reducible rfl)
  refine KeptAny.take (i := 1) (v := ?_) (by kernel_rfl) rfl rfl (by kernel_rfl) (by kernel_rfl) (by kernel_rfl) (fun _ _ _ h => h) (by rfl) (fun w' hw' => ?_) (fun _ => rfl) hS0 ?_
  rotate_left
  · (go_simp; try with_reducible rfl)
  refine KeptAny.take (i := 2) (v := ?_) (by kernel_rfl) rfl rfl (by kernel_rfl) (by kernel_rfl) (by kernel_rfl) (fun _ _ _ h => h) (by rfl) (fun w' hw' => ?_) (fun _ => rfl) hS0 ?_
  rotate_left
  · (go_simp; try with_reducible rfl)
  clear hS0
  refine KeptAny.one (i := 3) (by kernel_rfl) rfl (by rfl) (fun K hK => ?_)
  go_simp
  refine ⟨trivial, ?_⟩
  obtain ⟨q5, hq5, hrd5⟩ := HI0.out.rd.rd
  obtain ⟨oq, cq, heq, hhq⟩ := HI0.out.gr.holds
  cases heq
  have hC := (callsIn_wide (n := 5)).2 (place1_any hrd5 (by omega) HLL.out (cv := cv) hhq)
  refine hC.mono ?_
  clear hC hrd5 hhq
  rintro e w5 ⟨x, y, rfl, hx, hy, hr5⟩
  have HI5 := Lib.hid (HI0.out.askedAt hr5)
  have HXY := Lib.hid (And.intro hx hy)
  clear hr5 hx hy
  refine hK.out _ _ (HI5.out.t4.cell (i := 0) (v := .slice ov ss.length cv) (by rfl)) (fun _ => ?_)
  clear hK
  have t2 := HI5.out.t2.cell (i := 0) (v := .slice none 0 0) (by rfl)
  have f2 := HI5.out.t2.frozen 0
  have R3a := HI5.out.t3.other (a := ⟨w.heap.size, 0, none⟩) (by simp) (.slice ov ss.length cv)
  have t30 := R3a.cell (i := 0) (v := .int .i64 0) (by rfl)
  have t31 := R3a.cell (i := 1) (v := .int .i64 0) (by rfl)
  have f3 : ∀ k, (w5.setCell ⟨w.heap.size, 0, none⟩ (.slice ov ss.length cv)).frozen? ⟨w.heap.size + 1, k, none⟩ = false := fun k => R3a.frozen k
  have R3b := (R3a.set 0 (.int .i64 x)).set 1 (.int .i64 y)
  have d30 := R3b.cell (i := 0) (v := .int .i64 x) (by rfl)
  have d31 := R3b.cell (i := 1) (v := .int .i64 y) (by rfl)
  have R2b := ((HI5.out.t2.set 0 (.slice ov ss.length cv)).other (a := ⟨w.heap.size + 1, 0, none⟩) (by simp) (.int .i64 x)).other (a := ⟨w.heap.size + 1, 1, none⟩) (by simp) (.int .i64 y)
  have d2 := R2b.cell (i := 0) (v := .slice ov ss.length cv) (by rfl)
  have R4a := HI5.out.t4.other (a := ⟨w.heap.size, 0, none⟩) (show w.heap.size ≠ w2.heap.size by have := HI5.out.low; omega) (.slice ov ss.length cv)
  have d4 := R4a.cell (i := 0) (v := .slice ov ss.length cv) (by rfl)
  have R4b := (R4a.other (a := ⟨w.heap.size + 1, 0, none⟩) (show w.heap.size + 1 ≠ w2.heap.size by have := HI5.out.low; omega) (.int .i64 x)).other (a := ⟨w.heap.size + 1, 1, none⟩) (show w.heap.size + 1 ≠ w2.heap.size by have := HI5.out.low; omega) (.int .i64 y)
  have d4b := R4b.cell (i := 0) (v := .slice ov ss.length cv) (by rfl)
  have HG5 := Lib.hid (((HI5.out.gr.other HI5.out.t2 (by decide) (by decide) 0 (.slice ov ss.length cv)).other R3a (by decide) (by decide) 0 (.int .i64 x)).other (R3a.set 0 (.int .i64 x)) (by decide) (by decide) 1 (.int .i64 y))
  have HE5 : Hid (∀ N, N ≤ r → Below N w (((w5.setCell ⟨w.heap.size, 0, none⟩ (.slice ov ss.length cv)).setCell ⟨w.heap.size + 1, 0, none⟩ (.int .i64 x)).setCell ⟨w.heap.size + 1, 1, none⟩ (.int .i64 y))) := Lib.hid (fun N hN => by
    have hrr := HI5.out.far
    exact (((HI5.out.rd.turns.below hN hN (by omega)).setCell (by show N ≤ w.heap.size; omega) _).setCell (by show N ≤ w.heap.size + 1; omega) _).setCell (by show N ≤ w.heap.size + 1; omega) _)
  clear R3a R3b R2b R4a R4b
  refine KeptAny.one (i := 4) (by kernel_rfl) rfl (by rfl) (fun K hK => ?_)
  go_simp
  refine hK.out _ _ d4 (fun _ => ?_)
  clear hK f2 t2
  refine KeptAny.one (i := 5) (by kernel_rfl) rfl (by rfl) (fun K hK => ?_)
  go_simp
  refine hK.out _ _ d4b (fun _ => ?_)
  clear hK f3 t30 t31 d4 d4b
  refine KeptAny.done (by kernel_rfl) ?_ _
  go_wp2
  exact bodyPost_ret (v := .tuple #[.agg #[.slice ov ss.length cv], .agg #[.int .i64 x, .int .i64 y]]) (by simp [results, Tryz.results59, go_sem, d2, d30, d31]) rfl ⟨ss, _, _, x, y, rfl, ⟨_, HG5.out⟩, HLL.out, HXY.out.1, HXY.out.2, HE5.out⟩
end Go.Proofs.YtjogfagjcpcihaaGreatDoor
