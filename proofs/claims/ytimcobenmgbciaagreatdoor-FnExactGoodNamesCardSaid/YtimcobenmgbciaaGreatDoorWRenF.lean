/-
  The walks of impl's renamings: the closures of naming, replacing and then, and what a function value that renames does in every later world. No condition.
-/
import Derived.Test.YtimcobenmgbciaaGreatDoorJD
import Derived.Test.YtimcobenmgbciaaGreatDoorJE
namespace Go.Proofs.YtimcobenmgbciaaGreatDoor
open Go Go.RowKit
/-- A function value that renames, in every world behind w. -/
def RenOk (w : World) (u : Value) (f : NameF) : Prop := ∃ (fn : Nat) (lb : Array Value), u = .func (.func fn) #[] lb ∧ (∀ args W, (callFunc fn args).run Tryz.prog W = .ok (.enter fn args) W) ∧
  ∀ (i j : Nat) (nm : ByteArray) (W : World), i < 1000 → j < 1000 → Below w.heap.size w W → Calls Tryz.prog fn (#[.agg #[.int .i64 (i : Int), .int .i64 (j : Int)], .string nm] ++ lb) W fun e W' => e = .returned (.string (f i j nm)) ∧ Below W.heap.size W W'
theorem RenOk.below {w w' : World} {u : Value} {f : NameF} (h : RenOk w u f) (hb : Below w.heap.size w w') : RenOk w' u f := by
  obtain ⟨fn, lb, h1, h2, h3⟩ := h
  exact ⟨fn, lb, h1, h2, fun i j nm W hi hj hW => h3 i j nm W hi hj (hb.trans (hW.mono hb.size))⟩
theorem RenOk.same {w : World} {u : Value} {f g : NameF} (h : RenOk w u f) (hf : f = g) : RenOk w u g := hf ▸ h
set_option maxRecDepth 100000 in
theorem naming1_any (i j a b : Nat) (old nm : ByteArray) (A N : Nat) (W : World) (hA : Row W A 34 [.int .i64 (a : Int), .int .i64 (b : Int)]) (hN : Row W N 9 [.string nm]) :
    Calls Tryz.prog 69 #[.agg #[.int .i64 (i : Int), .int .i64 (j : Int)], .string old, .pointer (some ⟨A, 0, none⟩), .pointer (some ⟨N, 0, none⟩)] W fun e W' => e = .returned (.string (nmAt a b nm i j old)) ∧ Below W.heap.size W W' := by
  have hb := (Below.refl W.heap.size W).alloc (Nat.le_refl _) (.cells #[.int .i64 (i : Int), .int .i64 (j : Int)] 34)
  have R1 := Row.new W [.int .i64 (i : Int), .int .i64 (j : Int)] 34
  have p0 := R1.cell (i := 0) (v := .int .i64 (i : Int)) (by rfl)
  have p1 := R1.cell (i := 1) (v := .int .i64 (j : Int)) (by rfl)
  have a0 := (hA.below hb hA.lt).cell (i := 0) (v := .int .i64 (a : Int)) (by rfl)
  have a1 := (hA.below hb hA.lt).cell (i := 1) (v := .int .i64 (b : Int)) (by rfl)
  have n0 := (hN.below hb hN.lt).cell (i := 0) (v := .string nm) (by rfl)
  have HB := Lib.hid hb
  clear hb R1 hA hN
  by_cases h1 : i = a
  · subst h1
    by_cases h2 : j = b
    · subst h2
      have HE : Hid (nmAt i j nm i j old = nm) := Lib.hid (by unfold nmAt; rw [if_pos ⟨rfl, rfl⟩])
      go_enter Tryz.func69, Tryz.ntmps69
      go_wp2
      go_ret
      exact ⟨by rw [HE.out]; rfl, HB.out⟩
    · have HE : Hid (nmAt i b nm i j old = old) := Lib.hid (by unfold nmAt; rw [if_neg (fun h => h2 h.2)])
      have d1 : ((j : Int) == (b : Int)) = false := by simp; omega
      have d2 : ¬ (j : Int) = (b : Int) := by omega
      clear h2
      go_enter Tryz.func69, Tryz.ntmps69
      go_wp2
      go_ret
      exact ⟨by rw [HE.out]; rfl, HB.out⟩
  · have HE : Hid (nmAt a b nm i j old = old) := Lib.hid (by unfold nmAt; rw [if_neg (fun h => h1 h.1)])
    have d1 : ((i : Int) == (a : Int)) = false := by simp; omega
    have d2 : ¬ (i : Int) = (a : Int) := by omega
    clear h1
    go_enter Tryz.func69, Tryz.ntmps69
    go_wp2
    go_ret
    exact ⟨by rw [HE.out]; rfl, HB.out⟩
set_option maxRecDepth 100000 in
theorem naming_any (a b : Nat) (nm : ByteArray) (w : World) :
    Calls Tryz.prog 45 #[.agg #[.int .i64 (a : Int), .int .i64 (b : Int)], .string nm] w fun e w' => ∃ u, e = .returned u ∧ RenOk w' u (nmAt a b nm) ∧ Below w.heap.size w w' := by
  have hb := ((Below.refl w.heap.size w).alloc (Nat.le_refl _) (.cells #[.int .i64 (a : Int), .int .i64 (b : Int)] 34)).alloc (by simp) (.cells #[.string nm] 9)
  have R1 := Lib.hid ((Row.new w [.int .i64 (a : Int), .int .i64 (b : Int)] 34).alloc (.cells #[.string nm] 9))
  have R2 := Lib.hid (Row.new (w.alloc (.cells #[.int .i64 (a : Int), .int .i64 (b : Int)] 34)) [.string nm] 9)
  have HB := Lib.hid hb
  clear hb
  go_enter Tryz.func45, Tryz.ntmps45
  go_wp2
  go_ret
  exact ⟨_, rfl, ⟨_, _, rfl, enters_of Tryz.func69 (by kernel_rfl) rfl, fun i j old W _ _ hW => naming1_any i j a b old nm _ _ W (R1.out.below hW R1.out.lt) (by have h := R2.out.below hW R2.out.lt; rw [World.size_alloc] at h; exact h)⟩, HB.out⟩
set_option maxRecDepth 100000 in
set_option maxHeartbeats 4000000 in
theorem then1_any {u1 u2 : Value} {f g : NameF} (i j : Nat) (nm : ByteArray) (A N : Nat) (W : World) (hi : i < 1000) (hj : j < 1000) (hA : Row W A 92 [u2]) (hN : Row W N 92 [u1]) (h1 : RenOk W u1 f) (h2 : RenOk W u2 g) :
    Calls Tryz.prog 70 #[.agg #[.int .i64 (i : Int), .int .i64 (j : Int)], .string nm, .pointer (some ⟨A, 0, none⟩), .pointer (some ⟨N, 0, none⟩)] W fun e W' => e = .returned (.string (g i j (f i j nm))) ∧ Below W.heap.size W W' := by
  have hb := (Below.refl W.heap.size W).alloc (Nat.le_refl _) (.cells #[.int .i64 (i : Int), .int .i64 (j : Int)] 34)
  obtain ⟨f1, l1, rfl, e1, c1⟩ := h1
  obtain ⟨f2, l2, rfl, e2, c2⟩ := h2
  have R1 := Row.new W [.int .i64 (i : Int), .int .i64 (j : Int)] 34
  have p0 := cell_drew (R1.cell (i := 0) (v := .int .i64 (i : Int)) (by rfl))
  have p1 := cell_drew (R1.cell (i := 1) (v := .int .i64 (j : Int)) (by rfl))
  have a0 := cell_drew ((hA.below hb hA.lt).cell (i := 0) (v := .func (.func f2) #[] l2) (by rfl))
  have n0 := cell_drew ((hN.below hb hN.lt).cell (i := 0) (v := .func (.func f1) #[] l1) (by rfl))
  have HC1 := Lib.hid (c1 i j nm (W.alloc (.cells #[.int .i64 (i : Int), .int .i64 (j : Int)] 34)).drew hi hj hb.drew)
  have HC2 := Lib.hid c2
  have HB := Lib.hid hb
  have HIJ := Lib.hid (And.intro hi hj)
  clear hb R1 hA hN c1 c2 hi hj
  go_enter Tryz.func70, Tryz.ntmps70
  go_wp2
  refine wp_region_kept (S := fun w' => w'.cell? ⟨W.heap.size, 0, none⟩ = some (.int .i64 (i : Int)) ∧ w'.cell? ⟨W.heap.size, 1, none⟩ = some (.int .i64 (j : Int)) ∧ w'.cell? ⟨A, 0, none⟩ = some (.func (.func f2) #[] l2) ∧ w'.cell? ⟨N, 0, none⟩ = some (.func (.func f1) #[] l1)) 20 (by kernel_rfl) ?_
  have hS0 := And.intro p0 (And.intro p1 (And.intro a0 n0))
  refine KeptAny.take (i := 0) (v := ?_) (by kernel_rfl) rfl rfl (by kernel_rfl) (by kernel_rfl) (by kernel_rfl) (fun _ _ _ h => h) (by rfl) (fun w' hw' => ?_) (fun _ => rfl) hS0 ?_
  rotate_left
  · (obtain ⟨g0, g1, g2, g3⟩ := hw'; go_simp; try with_reducible rfl)
  refine KeptAny.take (i := 1) (v := ?_) (by kernel_rfl) rfl rfl (by kernel_rfl) (by kernel_rfl) (by kernel_rfl) (fun _ _ _ h => h) (by rfl) (fun w' hw' => ?_) (fun _ => rfl) hS0 ?_
  rotate_left
  · (obtain ⟨g0, g1, g2, g3⟩ := hw'; go_simp; try with_reducible rfl)
  refine KeptAny.take (i := 2) (v := ?_) (by kernel_rfl) rfl rfl (by kernel_rfl) (by kernel_rfl) (by kernel_rfl) (fun _ _ _ h => h) (by rfl) (fun w' hw' => ?_) (fun _ => rfl) hS0 ?_
  rotate_left
  · (obtain ⟨g0, g1, g2, g3⟩ := hw'; go_simp; try with_reducible rfl)
  refine KeptAny.take (i := 3) (v := ?_) (by kernel_rfl) rfl rfl (by kernel_rfl) (by kernel_rfl) (by kernel_rfl) (fun _ _ _ h => h) (by rfl) (fun w' hw' => ?_) (fun _ => rfl) hS0 ?_
  rotate_left
  · (obtain ⟨g0, g1, g2, g3⟩ := hw'; go_simp; try with_reducible rfl)
  refine KeptAny.take (i := 4) (v := ?_) (by kernel_rfl) rfl rfl (by kernel_rfl) (by kernel_rfl) (by kernel_rfl) (fun _ _ _ h => h) (by rfl) (fun w' hw' => ?_) (fun _ => rfl) hS0 ?_
  rotate_left
  · (obtain ⟨g0, g1, g2, g3⟩ := hw'; go_simp; try with_reducible rfl)
  refine KeptAny.one (i := 5) (by kernel_rfl) rfl (by rfl) (fun K hK => ?_)
  go_simp
  refine ⟨trivial, ?_⟩
  refine ((callsIn_wide (n := 5)).2 HC1.out).mono ?_
  rintro e wa ⟨rfl, hb1⟩
  have HD1 := Lib.hid (HB.out.drew.trans (hb1.mono HB.out.drew.size))
  have hS1 := And.intro (cell_grow hb1 hS0.1) (And.intro (cell_grow hb1 hS0.2.1) (And.intro (cell_grow hb1 hS0.2.2.1) (cell_grow hb1 hS0.2.2.2)))
  refine hK.out _ _ hS1 (fun _ => ?_)
  clear hK hb1
  refine KeptAny.one (i := 6) (by kernel_rfl) rfl (by rfl) (fun K hK => ?_)
  go_simp
  refine ⟨trivial, ?_⟩
  refine ((callsIn_wide (n := 5)).2 (HC2.out i j _ wa HIJ.out.1 HIJ.out.2 HD1.out)).mono ?_
  rintro e wb ⟨rfl, hb2⟩
  have HD2 := Lib.hid (HD1.out.trans (hb2.mono HD1.out.size))
  have hS2 := And.intro (cell_grow hb2 hS1.1) (And.intro (cell_grow hb2 hS1.2.1) (And.intro (cell_grow hb2 hS1.2.2.1) (cell_grow hb2 hS1.2.2.2)))
  refine hK.out _ _ hS2 (fun _ => ?_)
  clear hK hb2
  refine KeptAny.one (i := 7) (by kernel_rfl) rfl (by rfl) (fun K hK => ?_)
  go_simp
  refine hK.out _ _ hS2 (fun _ => ?_)
  clear hK
  refine KeptAny.done (by kernel_rfl) ?_ _
  go_wp2
  go_ret
  exact ⟨rfl, HD2.out⟩
set_option maxRecDepth 100000 in
theorem then_any {u1 u2 : Value} {f g : NameF} (w : World) (h1 : RenOk w u1 f) (h2 : RenOk w u2 g) :
    Calls Tryz.prog 46 #[u1, u2] w fun e w' => ∃ u, e = .returned u ∧ RenOk w' u (fun i j n => g i j (f i j n)) ∧ Below w.heap.size w w' := by
  obtain ⟨f1, l1, rfl, e1, c1⟩ := h1
  obtain ⟨f2, l2, rfl, e2, c2⟩ := h2
  have hb := ((Below.refl w.heap.size w).alloc (Nat.le_refl _) (.cells #[.func (.func f1) #[] l1] 92)).alloc (by simp) (.cells #[.func (.func f2) #[] l2] 92)
  have R1 := Lib.hid ((Row.new w [.func (.func f1) #[] l1] 92).alloc (.cells #[.func (.func f2) #[] l2] 92))
  have R2 := Lib.hid (Row.new (w.alloc (.cells #[.func (.func f1) #[] l1] 92)) [.func (.func f2) #[] l2] 92)
  have HB := Lib.hid hb
  have K1 := Lib.hid (RenOk.below (f := f) ⟨f1, l1, rfl, e1, c1⟩ hb)
  have K2 := Lib.hid (RenOk.below (f := g) ⟨f2, l2, rfl, e2, c2⟩ hb)
  clear hb c1 c2 e1 e2
  go_enter Tryz.func46, Tryz.ntmps46
  go_wp2
  go_ret
  exact ⟨_, rfl, ⟨_, _, rfl, enters_of Tryz.func70 (by kernel_rfl) rfl, fun i j old W hi hj hW => then1_any i j old _ _ W hi hj (by have h := R2.out.below hW R2.out.lt; rw [World.size_alloc] at h; exact h) (R1.out.below hW R1.out.lt) (K1.out.below hW) (K2.out.below hW)⟩, HB.out⟩
end Go.Proofs.YtimcobenmgbciaaGreatDoor
