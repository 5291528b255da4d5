/-
  The walks of the given l7Room, l7Add, AddDeclaration and AddImport. Condition: the argument's memory holds the graph.
-/
import Derived.Test.YthoccmhgjcafnaaDoorWAddI
import Derived.Test.YthoccmhgjcafnaaDoorJB
namespace Go.Proofs.YthoccmhgjcafnaaDoor
open Go Go.RowKit
set_option maxRecDepth 100000 in
set_option maxHeartbeats 1000000 in
theorem l7Room_any (ss : List Sc) (hf : FitsScopes ss) (oa : Option Addr) (cap : Nat) (n : Int) (w : World) (hc : HoldsScopes w oa ss) :
    Calls Tryd.prog 30 #[.agg #[.slice oa ss.length cap], .int .i64 n] w fun e w' => ∃ b : Bool, e = .returned (.bool b) ∧ (b = true ↔ Room ss n) ∧ Below w.heap.size w w' := by
  have hb0 := (Below.refl w.heap.size w).alloc (Nat.le_refl _) (.cells #[.slice oa ss.length cap] 31)
  have C := Lib.hid (specScope_any ss hf oa cap n _ (hc.below hb0 (Nat.le_refl _)))
  have R := Lib.hid (Row.new w [.slice oa ss.length cap] 31)
  have HB := Lib.hid hb0
  have HC := Lib.hid hc
  have hl := hf.1
  have HF := Lib.hid hf
  have g1 := R.out.cell (i := 0) (by rfl)
  clear hf hc hb0
  go_enter Tryd.func30, Tryd.ntmps30
  go_wp2_with fail
  refine C.out.mono ?_
  rintro e w1 ⟨q, rfl, hq, hb1⟩
  have HB1 := Lib.hid (HB.out.trans (hb1.mono HB.out.size))
  have c1 := (R.out.below hb1 R.out.lt).cell (i := 0) (v := .slice oa ss.length cap) (by rfl)
  have HQ := Lib.hid hq
  clear hb1 hq g1
  cases q
  · have HN : Hid (¬ Room ss n) := Lib.hid (by
      rintro ⟨hv, i, c, rfl, h2, h3⟩
      have h4 := HQ.out.2 ⟨hv, by omega, by have := (List.getElem?_eq_some_iff.1 h2).1; omega⟩
      cases h4)
    go_wp2
    go_ret
    exact ⟨false, rfl, by simp [HN.out], HB1.out⟩
  · obtain ⟨hv, h0, h1⟩ := HQ.out.1 rfl
    obtain ⟨i, rfl⟩ : ∃ i : Nat, n = (i : Int) := ⟨n.toNat, by omega⟩
    have hi : i < ss.length := by omega
    obtain ⟨c, hci⟩ : ∃ c, ss[i]? = some c := ⟨_, List.getElem?_eq_getElem hi⟩
    obtain ⟨b1, f1, rfl, hb1, hcell⟩ := HC.out.at (by omega)
    obtain ⟨oi, ci, x0, x1, hIt⟩ := hcell i c hci
    have y1 := (HB1.out.cell (p := ⟨b1, f1 + i * 2 + 1, none⟩) hb1).trans x1
    have HK : Hid (decide (c.items.length < 5) = true ↔ Room ss (i : Int)) := Lib.hid (by
      rw [decide_eq_true_eq]
      constructor
      · exact fun h => ⟨hv, i, c, rfl, hci, h⟩
      · rintro ⟨_, i', c', h1, h2, h3⟩
        obtain rfl : i = i' := by omega
        rw [hci] at h2
        obtain rfl := Option.some.inj h2
        exact h3)
    have hdd : decide (((c.items.length : Nat) : Int) < 5) = decide (c.items.length < 5) := by rw [decide_eq_decide]; omega
    obtain ⟨q, hq⟩ : ∃ q, decide (c.items.length < 5) = q := ⟨_, rfl⟩
    rw [hq] at HK hdd
    have hlc := (HF.out.2 c (List.mem_of_getElem? hci)).1
    clear x0 x1 hIt hcell hv hci hq
    go_wp2
    go_ret
    exact ⟨q, rfl, HK.out, HB1.out⟩
set_option maxRecDepth 100000 in
set_option maxHeartbeats 4000000 in
theorem l7Add_any (ss : List Sc) (hn : ss.length ≤ 1048576) (hn2 : ∀ s ∈ ss, s.items.length ≤ 500000) (oa : Option Addr) (cap i : Nat) (s : Sc) (x : It) (hs' : ss[i]? = some s) (w : World) (hc : HoldsScopes w oa ss) :
    Calls Tryd.prog 54 #[.agg #[.slice oa ss.length cap], .int .i64 (i : Int), .agg #[.int .i64 x.kind, .string x.name, .int .i64 x.scope]] w fun e w' => ∃ v hs, e = .returned (.agg #[v]) ∧ OwnGr w' w.heap.size v (addP ss i x) hs ∧ Below w.heap.size w w' := by
  have hb0 : Below w.heap.size w (((w.alloc (.cells #[.slice oa ss.length cap] 31)).alloc (.cells #[.int .i64 x.kind, .string x.name, .int .i64 x.scope] 90)).alloc (.cells #[.slice none 0 0] 31)) := (((Below.refl _ _).alloc (Nat.le_refl _) _).alloc (by simp) _).alloc (by simp; omega) _
  have R1 := ((Row.new w [.slice oa ss.length cap] 31).alloc (.cells #[.int .i64 x.kind, .string x.name, .int .i64 x.scope] 90)).alloc (.cells #[.slice none 0 0] 31)
  have R2 := (Row.new (w.alloc (.cells #[.slice oa ss.length cap] 31)) [.int .i64 x.kind, .string x.name, .int .i64 x.scope] 90).alloc (.cells #[.slice none 0 0] 31)
  have R3 := Row.new ((w.alloc (.cells #[.slice oa ss.length cap] 31)).alloc (.cells #[.int .i64 x.kind, .string x.name, .int .i64 x.scope] 90)) [.slice none 0 0] 31
  rw [World.size_alloc] at R2
  rw [World.size_alloc, World.size_alloc] at R3
  have hml := hn2 s (List.mem_of_getElem? hs')
  have hil := (List.getElem?_eq_some_iff.1 hs').1
  have C := Lib.hid (specCopy_any ss oa cap hn (fun t ht => by have := hn2 t ht; omega) _ (hc.below hb0 (Nat.le_refl _)))
  have HB := Lib.hid hb0
  have HR2 := Lib.hid R2
  have HR3 := Lib.hid R3
  have HS := Lib.hid hs'
  have g1 := R1.cell (i := 0) (by rfl)
  have hsz0 : Hid ((((w.alloc (.cells #[.slice oa ss.length cap] 31)).alloc (.cells #[.int .i64 x.kind, .string x.name, .int .i64 x.scope] 90)).alloc (.cells #[.slice none 0 0] 31)).heap.size = w.heap.size + 3) := Lib.hid (by simp)
  clear hc hb0 R1 R2 R3 hs' hn2
  go_enter Tryd.func54, Tryd.ntmps54
  go_wp2_with fail
  refine C.out.mono ?_
  rintro e w1 ⟨v, hs, rfl, hO, hb1⟩
  obtain ⟨gs, cs, rfl⟩ : ∃ gs cs, v = .slice (some ⟨gs, 0, none⟩) ss.length cs := by
    obtain ⟨hl, h2 | ⟨g, c, cur, hv, hB, hh, _⟩⟩ := hO.row
    · have := h2.2; omega
    · exact ⟨g, c, hv⟩
  obtain ⟨wA, hwA⟩ : ∃ wA, wA = w1.alloc (.cells #[.slice (some ⟨gs, 0, none⟩) ss.length cs] 31) := ⟨_, rfl⟩
  have hbA0 := (Below.refl w1.heap.size w1).alloc (Nat.le_refl _) (.cells #[.slice (some ⟨gs, 0, none⟩) ss.length cs] 31)
  have RH0 := Row.new w1 [.slice (some ⟨gs, 0, none⟩) ss.length cs] 31
  have hszA0 := World.size_alloc w1 (.cells #[.slice (some ⟨gs, 0, none⟩) ss.length cs] 31)
  rw [← hwA] at hbA0 hszA0
  rw [show w1.alloc (.cells [Value.slice (some ⟨gs, 0, none⟩) ss.length cs].toArray 31) = wA from hwA.symm] at RH0
  have hbA := hb1.trans (hbA0.mono hb1.size)
  have HB1 := Lib.hid (HB.out.trans (hbA.mono HB.out.size))
  have hsB : w.heap.size + 3 ≤ w1.heap.size := by have := hb1.size; rw [hsz0.out] at this; exact this
  have hG : GrIn wA (w.heap.size + 3) w1.heap.size gs cs ss hs := ⟨RH0, by have h := hO.below hbA0; rw [hsz0.out] at h; exact h⟩
  have HX := Lib.hid (HR2.out.below hbA HR2.out.lt)
  have HRR := Lib.hid (HR3.out.below hbA HR3.out.lt)
  have hBA : w.heap.size + 3 ≤ wA.heap.size := by omega
  obtain ⟨u, hu, hgB, hgl, hcell, hown⟩ := hG.slot HS.out
  have hne1 := hG.apartI HS.out hu
  have hneG := hG.apartB HS.out hu
  have hgg := hG.apartG
  have hi0 : (0 : Int) ≤ (i : Int) := by omega
  have hi1 : (i : Int) < (ss.length : Int) := by omega
  have hbD : Below wA.heap.size wA wA.drew := (Below.refl _ _).drew
  have hownD := ownsRow_below hown hbD
  obtain ⟨v', w', hrun, hown', hg', hblk⟩ := append_item_at hownD x (by omega) (by show w.heap.size + 3 ≤ wA.heap.size; exact hBA) 70
  have hbE : Below wA.heap.size wA (wA.drew.alloc (.cells #[.int .i64 x.kind, .string x.name, .int .i64 x.scope] 90)) := hbD.alloc (Nat.le_refl wA.heap.size) _
  obtain ⟨o', c', rfl⟩ := ownsRow_slice hown'
  obtain ⟨ou, cu, rfl⟩ := ownsRow_slice hown
  have hGE := hG.below hbE
  have HG' : Hid (OwnGr (w'.setCell ⟨gs, i * 2 + 1, none⟩ (.slice o' (s.items.length + 1) c')) (w.heap.size + 3) (.slice (some ⟨gs, 0, none⟩) ss.length cs) (addP ss i x) (hs.set i (.slice o' (s.items.length + 1) c'))) := Lib.hid (by
    refine OwnGr.edit (t := addSc x s) hGE.own HS.out hu hg' (fun q hq => ?_) ?_ (addP_length ss i x) (add_parent ss i x) (addP_same HS.out) (fun k hk => addP_other hk)
    · rcases hblk with h | h
      · exact .inl (h ▸ hq)
      · rw [h] at hq
        obtain rfl := Option.some.inj hq
        exact .inr (Nat.le_of_eq (World.size_alloc _ _))
    · show w'.ownsRow (w.heap.size + 3) 90 3 _ (s.items ++ [x]).length (itemCells (s.items ++ [x]))
      rw [List.length_append, itemCells_append]
      exact hown')
  have hbW := (hbE.mono hBA).trans (below_grown1 hg' (Nat.le_trans hBA hbE.size) (fun q e => (hown.lt q e).1))
  have HBW := Lib.hid (HB1.out.trans (hbW.mono (by omega)))
  have HG2 := Lib.hid ((hGE.row.grown hg' hneG).other (a := ⟨gs, i * 2 + 1, none⟩) hgg (.slice o' (s.items.length + 1) c'))
  have hRR' := HRR.out.below hbW (by omega)
  have HRW := Lib.hid (hRR'.other (a := ⟨gs, i * 2 + 1, none⟩) (by show gs ≠ w.heap.size + 1 + 1; omega) (.slice o' (s.items.length + 1) c'))
  obtain ⟨vs4, hRS⟩ : ∃ vs, Row w' gs 72 vs := by
    obtain ⟨vs, h1⟩ := ownsRow_row hGE.own.row
    exact ⟨vs, h1.grown hg' hne1⟩
  have HRF := Lib.hid (hRS.frozen (i * 2 + 1))
  have hXE := HX.out.below hbE HX.out.lt
  have hX' := HX.out.below hbW (by omega)
  have hS0 := And.intro (cell_drew (hG.row.cell (i := 0) (by rfl))) (And.intro (cell_drew (HX.out.cell (i := 0) (v := .int .i64 x.kind) (by rfl))) (And.intro (cell_drew (HX.out.cell (i := 1) (v := .string x.name) (by rfl))) (And.intro (cell_drew (HX.out.cell (i := 2) (v := .int .i64 x.scope) (by rfl))) (cell_drew hcell))))
  have HSS := Lib.hid (And.intro (And.intro (hGE.row.cell (i := 0) (v := .slice (some ⟨gs, 0, none⟩) ss.length cs) (by rfl)) (And.intro (hXE.cell (i := 0) (v := .int .i64 x.kind) (by rfl)) (And.intro (hXE.cell (i := 1) (v := .string x.name) (by rfl)) (And.intro (hXE.cell (i := 2) (v := .int .i64 x.scope) (by rfl)) (cell_grow hbE hcell))))) (And.intro ((hGE.row.grown hg' hneG).cell (i := 0) (v := .slice (some ⟨gs, 0, none⟩) ss.length cs) (by rfl)) (And.intro (hX'.cell (i := 0) (v := .int .i64 x.kind) (by rfl)) (And.intro (hX'.cell (i := 1) (v := .string x.name) (by rfl)) (And.intro (hX'.cell (i := 2) (v := .int .i64 x.scope) (by rfl)) (cell_grownBy hg' hne1 (cell_grow hbE hcell)))))))
  have hcell0 := hRS
  have HRUN := Lib.hid hrun
  have HGB := Lib.hid hgB
  clear hG hu hown hownD hrun hown' hg' hblk hbE hGE hRS hXE hX' hbD hBA hcell hne1 hneG hgg hgB hbW hRR' hO hb1 hbA0 RH0 hszA0 hbA hsB g1 hcell0
  go_wp2
  rw [← hwA]
  clear hwA
  refine wp_region_kept (S := fun w' => w'.cell? ⟨w1.heap.size, 0, none⟩ = some (.slice (some ⟨gs, 0, none⟩) ss.length cs) ∧ w'.cell? ⟨w.heap.size + 1, 0, none⟩ = some (.int .i64 x.kind) ∧ w'.cell? ⟨w.heap.size + 1, 1, none⟩ = some (.string x.name) ∧ w'.cell? ⟨w.heap.size + 1, 2, none⟩ = some (.int .i64 x.scope) ∧ w'.cell? ⟨gs, i * 2 + 1, none⟩ = some (.slice ou s.items.length cu)) 14 (by kernel_rfl) ?_
  refine KeptAny.take (i := 0) (v := ?_) (by kernel_rfl) rfl rfl (by kernel_rfl) (by kernel_rfl) (by kernel_rfl) (fun _ _ _ h => h) (by rfl) (fun w' hw' => ?_) (fun _ => rfl) hS0 ?_
  rotate_left
  · (obtain ⟨g0, g1, g2, g3, g4⟩ := hw'; go_simp; try with_reducible rfl)
  refine KeptAny.take (i := 1) (v := ?_) (by kernel_rfl) rfl rfl (by kernel_rfl) (by kernel_rfl) (by kernel_rfl) (fun _ _ _ h => h) (by rfl) (fun w' hw' => ?_) (fun _ => rfl) hS0 ?_
  rotate_left
  · (obtain ⟨g0, g1, g2, g3, g4⟩ := hw'; go_simp; try with_reducible rfl)
  refine KeptAny.take (i := 2) (v := ?_) (by kernel_rfl) rfl rfl (by kernel_rfl) (by kernel_rfl) (by kernel_rfl) (fun _ _ _ h => h) (by rfl) (fun w' hw' => ?_) (fun _ => rfl) hS0 ?_
  rotate_left
  · (obtain ⟨g0, g1, g2, g3, g4⟩ := hw'; go_simp; try with_reducible rfl)
  refine KeptAny.take (i := 3) (v := ?_) (by kernel_rfl) rfl rfl (by kernel_rfl) (by kernel_rfl) (by kernel_rfl) (fun _ _ _ h => h) (by rfl) (fun w' hw' => ?_) (fun _ => rfl) hS0 ?_
  rotate_left
  · (obtain ⟨g0, g1, g2, g3, g4⟩ := hw'; go_simp; try with_reducible rfl)
  refine KeptAny.take (i := 4) (v := ?_) (by kernel_rfl) rfl rfl (by kernel_rfl) (by kernel_rfl) (by kernel_rfl) (fun _ _ _ h => h) (by rfl) (fun w' hw' => ?_) (fun _ => rfl) hS0 ?_
  rotate_left
  · (obtain ⟨g0, g1, g2, g3, g4⟩ := hw'; go_simp; try with_reducible rfl)
  refine KeptAny.take (i := 5) (v := ?_) (by kernel_rfl) rfl rfl (by kernel_rfl) (by kernel_rfl) (by kernel_rfl) (fun _ _ _ h => h) (by rfl) (fun w' hw' => ?_) (fun _ => rfl) hS0 ?_
  rotate_left
  · (obtain ⟨g0, g1, g2, g3, g4⟩ := hw'; go_simp; try with_reducible rfl)
  refine KeptAny.take (i := 6) (v := ?_) (by kernel_rfl) rfl rfl (by kernel_rfl) (by kernel_rfl) (by kernel_rfl) (fun _ _ _ h => h) (by rfl) (fun w' hw' => ?_) (fun _ => rfl) hS0 ?_
  rotate_left
  · (obtain ⟨g0, g1, g2, g3, g4⟩ := hw'; go_simp; try with_reducible rfl)
  refine KeptAny.take (i := 7) (v := ?_) (by kernel_rfl) rfl rfl (by kernel_rfl) (by kernel_rfl) (by kernel_rfl) (fun _ _ _ h => h) (by rfl) (fun w' hw' => ?_) (fun _ => rfl) hS0 ?_
  rotate_left
  · (obtain ⟨g0, g1, g2, g3, g4⟩ := hw'; go_simp; try with_reducible rfl)
  refine KeptAny.take (i := 8) (v := ?_) (by kernel_rfl) rfl rfl (by kernel_rfl) (by kernel_rfl) (by kernel_rfl) (fun _ _ _ h => h) (by rfl) (fun w' hw' => ?_) (fun _ => rfl) hS0 ?_
  rotate_left
  · (obtain ⟨g0, g1, g2, g3, g4⟩ := hw'; go_simp; try with_reducible rfl)
  refine KeptAny.take (i := 9) (v := ?_) (by kernel_rfl) rfl rfl (by kernel_rfl) (by kernel_rfl) (by kernel_rfl) (fun _ _ _ h => h) (by rfl) (fun w' hw' => ?_) (fun _ => rfl) hS0 ?_
  rotate_left
  · (obtain ⟨g0, g1, g2, g3, g4⟩ := hw'; go_simp; try with_reducible rfl)
  refine KeptAny.one (i := 10) (by kernel_rfl) rfl (by rfl) (fun K hK => ?_)
  go_simp
  refine hK.out _ _ HSS.out.1 (fun _ => ?_)
  clear hK hS0
  refine KeptAny.one (i := 11) (by kernel_rfl) rfl (by rfl) (fun K hK => ?_)
  refine wpIn_append_run _ _ 70 rfl rfl HRUN.out ?_
  refine hK.out _ _ HSS.out.2 (fun _ => ?_)
  clear hK
  refine KeptAny.one (i := 12) (by kernel_rfl) rfl (by rfl) (fun K hK => ?_)
  go_simp
  refine hK.out _ _ HSS.out.2 (fun _ => ?_)
  clear hK
  refine KeptAny.one (i := 13) (by kernel_rfl) rfl (by rfl) (fun K hK => ?_)
  go_simp
  refine hK.out _ _ HSS.out.2 (fun _ => ?_)
  clear hK
  have us4 := HSS.out.2.2.2.2.2
  have f4 := HRF.out
  refine KeptAny.last (by kernel_rfl) rfl (by rfl) (fun K hK => ?_)
  go_simp
  refine hK.out _ _ ?_
  clear hK
  refine KeptAny.done (by kernel_rfl) ?_ _
  have HBX := Lib.hid (HBW.out.setCell (p := ⟨gs, i * 2 + 1, none⟩) (Nat.le_trans (by omega) HGB.out) (.slice o' (s.items.length + 1) c'))
  clear us4 f4 HSS
  generalize w'.setCell ⟨gs, i * 2 + 1, none⟩ (.slice o' (s.items.length + 1) c') = w5 at *
  have r0 := HG2.out.cell (i := 0) (v := .slice (some ⟨gs, 0, none⟩) ss.length cs) (by rfl)
  have n0 := HRW.out.cell (i := 0) (v := .slice none 0 0) (by rfl)
  have f0 := HRW.out.frozen 0
  go_wp2
  have RT := HRW.out.set 0 (.slice (some ⟨gs, 0, none⟩) ss.length cs)
  have d0 := RT.cell (i := 0) (v := .slice (some ⟨gs, 0, none⟩) ss.length cs) (by rfl)
  refine bodyPost_ret (v := .agg #[.slice (some ⟨gs, 0, none⟩) ss.length cs]) (by simp [results, Tryd.results54, go_sem, d0]) rfl ⟨_, hs.set i (.slice o' (s.items.length + 1) c'), rfl, ?_, HBX.out.setCell (by simp; omega) _⟩
  exact (HG'.out.lower (by omega)).past HRW.out
end Go.Proofs.YthoccmhgjcafnaaDoor
