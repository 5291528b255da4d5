/-
  The walks of HidesOf, impl's and the given one's. Conditions: the argument's memory holds the graph; the package-level errors hold errors.
-/
import Derived.Test.YtoijapbffhkbbaaDoorWHides
import Derived.Test.YtoijapbffhkbbaaDoorRegionRound
namespace Go.Proofs.YtoijapbffhkbbaaDoor
open Go Go.RowKit Go.Maps
/-- What the region that looks behind leaves. -/
def HidCut (w wx : World) (l : List (Int × Int)) (u : Value) : Prop := wx.ownsRow w.heap.size 43 2 u l.length (placeCells l) ∧ Below w.heap.size w wx
set_option maxRecDepth 100000 in
set_option maxHeartbeats 8000000 in
theorem implHidesOf_any (ss : List Sc) (hF : Fair ss) (oa : Option Addr) (cap : Nat) (a b : Int) (ha : (Lit.int .i64 a).wf = true) (hb' : (Lit.int .i64 b).wf = true) (w : World) (hc : HoldsScopes w oa ss) (hE : DeclErrs w) :
    Calls Tryd.prog 30 #[.agg #[.slice oa ss.length cap], .agg #[.int .i64 a, .int .i64 b]] w (PlGot (declAt ss a b) (hidesAt ss a b) w) := by
  have hb0 : Below w.heap.size w ((w.alloc (.cells #[.slice oa ss.length cap] 30)).alloc (.cells #[.int .i64 a, .int .i64 b] 43)) := ((Below.refl _ _).alloc (Nat.le_refl _) _).alloc (by simp) _
  have RP : Hid (Row ((w.alloc (.cells #[.slice oa ss.length cap] 30)).alloc (.cells #[.int .i64 a, .int .i64 b] 43)) (w.heap.size + 1) 43 [.int .i64 a, .int .i64 b]) := Lib.hid (by
    have := Row.new (w.alloc (.cells #[.slice oa ss.length cap] 30)) [.int .i64 a, .int .i64 b] 43
    rw [World.size_alloc] at this
    exact this)
  have C := Lib.hid (declarationAt_any ss hF oa cap a b ha hb' _ (hc.below hb0 (Nat.le_refl _)) (hE.at hb0))
  have HB0 := Lib.hid hb0
  clear hF hc hE hb0 ha hb'
  go_enter Tryd.func30, Tryd.ntmps30
  go_wp2_with fail
  refine C.out.mono ?_
  rintro e w1 (⟨hn, ⟨tp, p, rfl⟩, hb⟩ | ⟨hv, i, j, x, T, M1, M2, B, v, ds, rfl, rfl, hx, hk, hpl, rfl, hb, -, hT⟩)
  · have HN := Lib.hid hn
    have HB := Lib.hid ((HB0.out.trans (hb.mono HB0.out.size)).alloc (HB0.out.trans (hb.mono HB0.out.size)).size (.cells #[.int .i64 0, .string ⟨#[]⟩, .int .i64 0] 57))
    clear hn hb
    go_wp2
    go_ret2
    exact .inl ⟨HN.out, rfl, HB.out⟩
  · have hbx := hb.alloc hb.size (.cells #[.int .i64 x.kind, .string x.name, .int .i64 x.scope] 57)
    have HB := Lib.hid (HB0.out.trans (hbx.mono HB0.out.size))
    have RP1 := RP.out.below hbx RP.out.lt
    have RX := Row.new w1 [.int .i64 x.kind, .string x.name, .int .i64 x.scope] 57
    have hb1 := (Below.refl w1.heap.size w1).alloc (Nat.le_refl _) (.cells #[.int .i64 x.kind, .string x.name, .int .i64 x.scope] 57)
    have HTx := Lib.hid (hT.below hb1)
    obtain ⟨sc, hsc, hjx⟩ := placed_at hpl
    dsimp only at hsc hjx
    have hil := (List.getElem?_eq_some_iff.1 hsc).1
    obtain ⟨d, hd⟩ : ∃ d, ds[i]? = some d := ⟨_, List.getElem?_eq_getElem (by rw [hT.hold.len]; exact hil)⟩
    have hdl := hT.hold.len
    have h6 := hv.count.2
    obtain ⟨g, cap', rfl, hgB, hg, hslot⟩ := HTx.out.tree.slot (by intro e; rw [e] at hd; simp at hd)
    have q1 := hslot i d hd
    unfold Nd.ptr at q1
    have q0 := RP1.cell (i := 0) (v := .int .i64 (i : Int)) (by rfl)
    have q2 := HTx.out.tree.box.cell (i := 0) (by rfl)
    have q3 := RX.cell (i := 1) (v := .string x.name) (by rfl)
    have HTE := Lib.hid (HTx.out.below ((Below.refl _ _).drew))
    have HBE := Lib.hid (HB.out.drew)
    have hszA : (w1.alloc (.cells #[.int .i64 x.kind, .string x.name, .int .i64 x.scope] 57)).drew.heap.size = w1.heap.size + 1 := World.size_alloc _ _
    have HNE : Hid (M1 ≠ w1.heap.size + 1 ∧ M2 ≠ w1.heap.size + 1) := Lib.hid (by
      obtain ⟨_, h1⟩ := HTE.out.items
      obtain ⟨_, h2⟩ := HTE.out.mods
      have := h1.lt
      have := h2.lt
      rw [hszA] at *
      omega)
    have HSA := Lib.hid hszA
    clear hszA
    have l0 : w.heap.size + 1 < (w1.alloc (.cells #[.int .i64 x.kind, .string x.name, .int .i64 x.scope] 57)).drew.heap.size := RP1.lt
    have l1 : g < (w1.alloc (.cells #[.int .i64 x.kind, .string x.name, .int .i64 x.scope] 57)).drew.heap.size := hg
    have l2 : T < (w1.alloc (.cells #[.int .i64 x.kind, .string x.name, .int .i64 x.scope] 57)).drew.heap.size := HTx.out.tree.box.lt
    have l3 : w1.heap.size < (w1.alloc (.cells #[.int .i64 x.kind, .string x.name, .int .i64 x.scope] 57)).drew.heap.size := RX.lt
    have HD := Lib.hid hd
    have HV := Lib.hid hv
    have HR : Hid (declAt ss (i : Int) (j : Int) ∧ hidesAt ss (i : Int) (j : Int) = hidesIt ss i x.name) := Lib.hid ⟨⟨hv, x, hx, hk⟩, hidesAt_of hx⟩
    have HL0 := Lib.hid (And.intro l0 (And.intro l1 (And.intro l2 l3)))
    clear hv hx hk hpl hb hT hbx RP1 RX hb1 hsc hjx hd hslot hg hgB
    go_wp2
    go_cut [4, 5] (fun s4 s5 wx => s5 = .bool true ∧ HidCut w wx (hidesIt ss i x.name) s4)
    case first =>
      go_upto_region 4 with (fail)
      refine wp_region_kept (S := fun w' => w'.cell? ⟨w.heap.size + 1, 0, none⟩ = some (.int .i64 (i : Int)) ∧ w'.cell? ⟨g, i, none⟩ = some (.pointer (some ⟨d.blk, 0, none⟩)) ∧ w'.cell? ⟨T, 0, none⟩ = some (.slice (some ⟨g, 0, none⟩) ds.length cap') ∧ w'.cell? ⟨w1.heap.size, 1, none⟩ = some (.string x.name)) 20 (by kernel_rfl) ?_
      have hS0 := And.intro (cell_drew q0) (And.intro (cell_drew q1) (And.intro (cell_drew q2) (cell_drew q3)))
      refine KeptAny.take (i := 0) (v := ?_) (by kernel_rfl) rfl rfl (by kernel_rfl) (by kernel_rfl) (by kernel_rfl) (fun _ _ _ h => h) (by rfl) (fun w' hw' => ?_) (fun _ => rfl) hS0 ?_
      rotate_left
      · (obtain ⟨g0, g1, g2, g3⟩ := hw'; go_simp; try with_reducible rfl)
      refine KeptAny.take (i := 2) (v := ?_) (by kernel_rfl) rfl rfl (by kernel_rfl) (by kernel_rfl) (by kernel_rfl) (fun _ _ _ h => h) (by rfl) (fun w' hw' => ?_) (fun _ => rfl) hS0 ?_
      rotate_left
      · (obtain ⟨g0, g1, g2, g3⟩ := hw'; go_simp; try with_reducible rfl)
      refine KeptAny.take (i := 3) (v := ?_) (by kernel_rfl) rfl rfl (by kernel_rfl) (by kernel_rfl) (by kernel_rfl) (fun _ _ _ h => h) (by rfl) (fun w' hw' => ?_) (fun _ => rfl) hS0 ?_
      rotate_left
      · (obtain ⟨g0, g1, g2, g3⟩ := hw'; go_simp; try with_reducible rfl)
      refine KeptAny.take (i := 4) (v := ?_) (by kernel_rfl) rfl rfl (by kernel_rfl) (by kernel_rfl) (by kernel_rfl) (fun _ _ _ h => h) (by rfl) (fun w' hw' => ?_) (fun _ => rfl) hS0 ?_
      rotate_left
      · (obtain ⟨g0, g1, g2, g3⟩ := hw'; go_simp; try with_reducible rfl)
      refine KeptAny.take (i := 5) (v := ?_) (by kernel_rfl) rfl rfl (by kernel_rfl) (by kernel_rfl) (by kernel_rfl) (fun _ _ _ h => h) (by rfl) (fun w' hw' => ?_) (fun _ => rfl) hS0 ?_
      rotate_left
      · (obtain ⟨g0, g1, g2, g3⟩ := hw'; go_simp; try with_reducible rfl)
      refine KeptAny.take (i := 6) (v := ?_) (by kernel_rfl) rfl rfl (by kernel_rfl) (by kernel_rfl) (by kernel_rfl) (fun _ _ _ h => h) (by rfl) (fun w' hw' => ?_) (fun _ => rfl) hS0 ?_
      rotate_left
      · (obtain ⟨g0, g1, g2, g3⟩ := hw'; go_simp; try with_reducible rfl)
      refine KeptAny.take (i := 7) (v := ?_) (by kernel_rfl) rfl rfl (by kernel_rfl) (by kernel_rfl) (by kernel_rfl) (fun _ _ _ h => h) (by rfl) (fun w' hw' => ?_) (fun _ => rfl) hS0 ?_
      rotate_left
      · (obtain ⟨g0, g1, g2, g3⟩ := hw'; go_simp; try with_reducible rfl)
      refine KeptAny.take (i := 8) (v := ?_) (by kernel_rfl) rfl rfl (by kernel_rfl) (by kernel_rfl) (by kernel_rfl) (fun _ _ _ h => h) (by rfl) (fun w' hw' => ?_) (fun _ => rfl) hS0 ?_
      rotate_left
      · (obtain ⟨g0, g1, g2, g3⟩ := hw'; go_simp; try with_reducible rfl)
      refine KeptAny.take (i := 9) (v := ?_) (by kernel_rfl) rfl rfl (by kernel_rfl) (by kernel_rfl) (by kernel_rfl) (fun _ _ _ h => h) (by rfl) (fun w' hw' => ?_) (fun _ => rfl) hS0 ?_
      rotate_left
      · (obtain ⟨g0, g1, g2, g3⟩ := hw'; go_simp; try with_reducible rfl)
      refine KeptAny.take (i := 10) (v := ?_) (by kernel_rfl) rfl rfl (by kernel_rfl) (by kernel_rfl) (by kernel_rfl) (fun _ _ _ h => h) (by rfl) (fun w' hw' => ?_) (fun _ => rfl) hS0 ?_
      rotate_left
      · (obtain ⟨g0, g1, g2, g3⟩ := hw'; go_simp; try with_reducible rfl)
      refine KeptAny.take (i := 11) (v := ?_) (by kernel_rfl) rfl rfl (by kernel_rfl) (by kernel_rfl) (by kernel_rfl) (fun _ _ _ h => h) (by rfl) (fun w' hw' => ?_) (fun _ => rfl) hS0 ?_
      rotate_left
      · (obtain ⟨g0, g1, g2, g3⟩ := hw'; go_simp; try with_reducible rfl)
      have HS0 := Lib.hid hS0
      clear hS0 q0 q1 q2 q3
      refine KeptAny.one (i := 1) (by kernel_rfl) rfl (by rfl) (fun K hK => ?_)
      go_simp
      refine ⟨trivial, ?_⟩
      refine ((callsIn_wide (n := 5)).2 (lookupIn_any T _)).mono ?_
      rintro e w3 ⟨rfl, hR3, hM3, hb3⟩
      rw [HSA.out] at hR3 hM3
      have HB3 := Lib.hid hb3
      have HLW := Lib.hid (LookW.mk (HTE.out.below hb3) hR3 (memo_nil (ss := ss) hM3) HNE.out.1 HNE.out.2)
      have HMM := Lib.hid (memo_nil (ss := ss) hM3)
      clear hR3 hM3 hb3
      refine hK.out _ _ ⟨cell_grow HB3.out HS0.out.1, cell_grow HB3.out HS0.out.2.1, cell_grow HB3.out HS0.out.2.2.1, cell_grow HB3.out HS0.out.2.2.2⟩ (fun _ => ?_)
      clear hK
      refine KeptAny.one (i := 12) (by kernel_rfl) rfl (by rfl) (fun K hK => ?_)
      go_simp
      refine ⟨trivial, ?_⟩
      refine ((callsIn_wide (n := 5)).2 (behind_any HV.out HLW.out HD.out x.name)).mono ?_
      rintro e w4 ⟨u, rfl, hu, hl4⟩
      have hc4 := hl4.turns.cellsM HMM.out
      have hS4 := And.intro (hc4.cell (Nat.lt_of_lt_of_le HL0.out.1 HB3.out.size) (cell_grow HB3.out HS0.out.1)) (And.intro (hc4.cell (Nat.lt_of_lt_of_le HL0.out.2.1 HB3.out.size) (cell_grow HB3.out HS0.out.2.1)) (And.intro (hc4.cell (Nat.lt_of_lt_of_le HL0.out.2.2.1 HB3.out.size) (cell_grow HB3.out HS0.out.2.2.1)) (hc4.cell (Nat.lt_of_lt_of_le HL0.out.2.2.2 HB3.out.size) (cell_grow HB3.out HS0.out.2.2.2))))
      have HS4 := Lib.hid hS4
      have HCUT : Hid (HidCut w w4 (hidesIt ss i x.name) u) := Lib.hid ⟨ownsRow_lower hu (Nat.le_trans HBE.out.size HB3.out.size), (HBE.out.trans (HB3.out.mono HBE.out.size)).trans (hl4.turns.below (by rw [← HSA.out]; exact HBE.out.size) (by rw [← HSA.out]; exact HBE.out.size) (Nat.le_trans HBE.out.size HB3.out.size))⟩
      clear hu hl4 hc4 hS4
      refine hK.out _ _ HS4.out (fun _ => ?_)
      clear hK
      refine KeptAny.one (i := 13) (by kernel_rfl) rfl (by rfl) (fun K hK => ?_)
      go_simp
      refine hK.out _ _ HS4.out (fun _ => ?_)
      clear hK
      refine KeptAny.one (i := 14) (by kernel_rfl) rfl (by rfl) (fun K hK => ?_)
      go_simp
      refine hK.out _ _ HS4.out (fun _ => ?_)
      clear hK
      refine KeptAny.done (by kernel_rfl) ?_ _
      go_wp2
      go_meet
      exact ⟨rfl, HCUT.out⟩
    case rest =>
      obtain ⟨rfl, hcc⟩ := hcut
      have HCC := Lib.hid hcc
      obtain ⟨o4, c4, rfl⟩ := ownsRow_slice hcc.1
      clear hcc q0 q1 q2 q3
      go_wp2
      go_ret2
      exact .inr ⟨HR.out.1, _, rfl, by rw [HR.out.2]; exact HCC.out.1, HCC.out.2⟩
end Go.Proofs.YtoijapbffhkbbaaDoor
namespace Go.Proofs.YtoijapbffhkbbaaDoor
open Go Go.RowKit
theorem ownsRow_empty0 {W : World} {base : Nat} (hb : base ≤ W.heap.size) : (W.alloc (.cells #[] 43)).ownsRow base 43 2 (.slice (some ⟨W.heap.size, 0, none⟩) 0 0) 0 [] :=
  World.ownsRow_made (base := base) (e := 43) (size := 2) W #[] 0 hb (by unfold maxLen; omega) rfl
set_option maxRecDepth 100000 in
set_option maxHeartbeats 8000000 in
theorem specHidesOf_any (ss : List Sc) (hf : FitsScopes ss) (oa : Option Addr) (cap : Nat) (a b : Int) (w : World) (hc : HoldsScopes w oa ss) :
    Calls Tryd.prog 28 #[.agg #[.slice oa ss.length cap], .agg #[.int .i64 a, .int .i64 b]] w (PlGot2 (declAt ss a b) (hidesAt ss a b) w) := by
  have hb0 : Below w.heap.size w ((w.alloc (.cells #[.slice oa ss.length cap] 30)).alloc (.cells #[.int .i64 a, .int .i64 b] 43)) := ((Below.refl _ _).alloc (Nat.le_refl _) _).alloc (by simp) _
  have RG := Lib.hid ((Row.new w [.slice oa ss.length cap] 30).alloc (.cells #[.int .i64 a, .int .i64 b] 43))
  have RP : Hid (Row ((w.alloc (.cells #[.slice oa ss.length cap] 30)).alloc (.cells #[.int .i64 a, .int .i64 b] 43)) (w.heap.size + 1) 43 [.int .i64 a, .int .i64 b]) := Lib.hid (by
    have := Row.new (w.alloc (.cells #[.slice oa ss.length cap] 30)) [.int .i64 a, .int .i64 b] 43
    rw [World.size_alloc] at this
    exact this)
  have C := Lib.hid (specItemAt_any ss hf oa cap a b _ (hc.below hb0 (Nat.le_refl _)))
  have HB0 := Lib.hid hb0
  have HC := Lib.hid hc
  have HF := Lib.hid hf
  have g0 := RG.out.cell (i := 0) (by rfl)
  have p0 := RP.out.cell (i := 0) (by rfl)
  have p1 := RP.out.cell (i := 1) (by rfl)
  clear hf hc hb0
  go_enter Tryd.func28, Tryd.ntmps28
  go_wp2_with fail
  refine C.out.mono ?_
  rintro e w1 ⟨x, ok, rfl, hcase, hb1⟩
  have hbx := hb1.trans ((Below.refl w1.heap.size w1).alloc (Nat.le_refl _) (.cells #[.int .i64 x.kind, .string x.name, .int .i64 x.scope] 57) |>.mono hb1.size)
  have HB1 := Lib.hid (HB0.out.trans (hbx.mono HB0.out.size))
  have RX := Lib.hid (Row.new w1 [.int .i64 x.kind, .string x.name, .int .i64 x.scope] 57)
  have RG1 := Lib.hid (RG.out.below hbx RG.out.lt)
  have RP1 := Lib.hid (RP.out.below hbx RP.out.lt)
  have g1 := RG1.out.cell (i := 0) (v := .slice oa ss.length cap) (by rfl)
  have q0 := RP1.out.cell (i := 0) (v := .int .i64 a) (by rfl)
  clear hb1 hbx g0 p0 p1
  unfold itV
  rcases hcase with ⟨hv, hx, rfl⟩ | ⟨hn, rfl, rfl⟩
  · have x0 := RX.out.cell (i := 0) (by rfl)
    by_cases hk : x.kind = 1
    · have hq1 : (x.kind != 1) = false := by simpa using hk
      have hR0 : declAt ss a b := ⟨hv, x, hx, hk⟩
      obtain ⟨i, j, rfl, rfl, hpl⟩ := item_placed hx
      have HR : Hid (declAt ss (i : Int) (j : Int) ∧ hidesAt ss (i : Int) (j : Int) = hidesIt ss i x.name) := Lib.hid ⟨hR0, hidesAt_of hx⟩
      obtain ⟨sc, hsc, -⟩ := placed_at hpl
      dsimp only at hsc
      have hil := (List.getElem?_eq_some_iff.1 hsc).1
      have HV := Lib.hid hv
      have HSC := Lib.hid hsc
      have x1 := RX.out.cell (i := 1) (v := .string x.name) (by rfl)
      have C2 := Lib.hid (specFrom_any ss hv HF.out oa cap i hil x.name _ (HC.out.below HB1.out (Nat.le_refl _)))
      clear hk hR0 hv hx hpl hsc x0
      go_wp2_with fail
      refine C2.out.mono ?_
      rintro e w3 ⟨u, rfl, hu, hb3⟩
      obtain ⟨ou, cu, rfl⟩ := ownsRow_slice hu
      have HB3 := Lib.hid (HB1.out.trans (hb3.mono HB1.out.size))
      have HU := Lib.hid (ownsRow_lower hu HB1.out.size)
      have s0 := (RG1.out.below hb3 RG1.out.lt).cell (i := 0) (v := .slice oa ss.length cap) (by rfl)
      have s1 := (RP1.out.below hb3 RP1.out.lt).cell (i := 0) (v := .int .i64 (i : Int)) (by rfl)
      have s3 := (RX.out.below hb3 RX.out.lt).cell (i := 1) (v := .string x.name) (by rfl)
      clear hu hb3 g1 q0 x1
      by_cases hpos : 0 < (fromP ss (impP ss i) x.name).length
      · have HE : Hid (hidesIt ss i x.name = fromP ss (impP ss i) x.name) := Lib.hid (hidesIt_from (isEmpty_pos hpos))
        go_wp2
        go_ret2
        exact .inr ⟨HR.out.1, _, rfl, by rw [HR.out.2, HE.out]; exact HU.out, HB3.out⟩
      · have HEM := Lib.hid (isEmpty_zero hpos)
        have hz0 : (fromP ss (impP ss i) x.name).length = 0 := by omega
        obtain ⟨bb, off, rfl, hbb, hcell⟩ := (HC.out.below HB3.out (Nat.le_refl _)).at (by omega)
        obtain ⟨oi, ci, a0, -, -⟩ := hcell i sc HSC.out
        rcases HV.out.climbs.cases HSC.out with ⟨h00, hp1, hp2⟩ | ⟨p, hp1, hlt, hp2⟩
        · have HE : Hid (hidesIt ss i x.name = []) := Lib.hid (hidesIt_none HEM.out hp2)
          rw [hp1] at a0
          clear hp1 hp2 hcell hpos h00
          go_wp2
          go_ret2
          exact .inr ⟨HR.out.1, _, rfl, by rw [HR.out.2, HE.out]; exact ownsRow_empty0 HB3.out.size, HB3.out.alloc HB3.out.size _⟩
        · have HE : Hid (hidesIt ss i x.name = (lookP ss p x.name).places) := Lib.hid (hidesIt_par HEM.out hp2)
          have HPL : Hid (p < ss.length) := Lib.hid (by omega)
          rw [hp1] at a0
          have s2 := a0
          clear hp1 hp2 hcell hpos a0
          go_upto_region 9 with (fail)
          refine wp_region_kept (S := fun w' => w'.cell? ⟨w.heap.size, 0, none⟩ = some (.slice (some ⟨bb, off, none⟩) ss.length cap) ∧ w'.cell? ⟨w.heap.size + 1, 0, none⟩ = some (.int .i64 (i : Int)) ∧ w'.cell? ⟨bb, off + i * 2, none⟩ = some (.int .i64 (p : Int)) ∧ w'.cell? ⟨w1.heap.size, 1, none⟩ = some (.string x.name)) 20 (by kernel_rfl) ?_
          have hS0 := And.intro (cell_drew s0) (And.intro (cell_drew s1) (And.intro (cell_drew s2) (cell_drew s3)))
          refine KeptAny.take (i := 0) (v := ?_) (by kernel_rfl) rfl rfl (by kernel_rfl) (by kernel_rfl) (by kernel_rfl) (fun _ _ _ h => h) (by rfl) (fun w' hw' => ?_) (fun _ => rfl) hS0 ?_
          rotate_left
          · (obtain ⟨g0, g1, g2, g3⟩ := hw'; go_simp; try with_reducible rfl)
          refine KeptAny.take (i := 1) (v := ?_) (by kernel_rfl) rfl rfl (by kernel_rfl) (by kernel_rfl) (by kernel_rfl) (fun _ _ _ h => h) (by rfl) (fun w' hw' => ?_) (fun _ => rfl) hS0 ?_
          rotate_left
          · (obtain ⟨g0, g1, g2, g3⟩ := hw'; go_simp; try with_reducible rfl)
          refine KeptAny.take (i := 2) (v := ?_) (by kernel_rfl) rfl rfl (by kernel_rfl) (by kernel_rfl) (by kernel_rfl) (fun _ _ _ h => h) (by rfl) (fun w' hw' => ?_) (fun _ => rfl) hS0 ?_
          rotate_left
          · (obtain ⟨g0, g1, g2, g3⟩ := hw'; go_simp; try with_reducible rfl)
          refine KeptAny.take (i := 3) (v := ?_) (by kernel_rfl) rfl rfl (by kernel_rfl) (by kernel_rfl) (by kernel_rfl) (fun _ _ _ h => h) (by rfl) (fun w' hw' => ?_) (fun _ => rfl) hS0 ?_
          rotate_left
          · (obtain ⟨g0, g1, g2, g3⟩ := hw'; go_simp; try with_reducible rfl)
          refine KeptAny.take (i := 4) (v := ?_) (by kernel_rfl) rfl rfl (by kernel_rfl) (by kernel_rfl) (by kernel_rfl) (fun _ _ _ h => h) (by rfl) (fun w' hw' => ?_) (fun _ => rfl) hS0 ?_
          rotate_left
          · (obtain ⟨g0, g1, g2, g3⟩ := hw'; go_simp; try with_reducible rfl)
          refine KeptAny.take (i := 5) (v := ?_) (by kernel_rfl) rfl rfl (by kernel_rfl) (by kernel_rfl) (by kernel_rfl) (fun _ _ _ h => h) (by rfl) (fun w' hw' => ?_) (fun _ => rfl) hS0 ?_
          rotate_left
          · (obtain ⟨g0, g1, g2, g3⟩ := hw'; go_simp; try with_reducible rfl)
          refine KeptAny.take (i := 6) (v := ?_) (by kernel_rfl) rfl rfl (by kernel_rfl) (by kernel_rfl) (by kernel_rfl) (fun _ _ _ h => h) (by rfl) (fun w' hw' => ?_) (fun _ => rfl) hS0 ?_
          rotate_left
          · (obtain ⟨g0, g1, g2, g3⟩ := hw'; go_simp; try with_reducible rfl)
          refine KeptAny.take (i := 7) (v := ?_) (by kernel_rfl) rfl rfl (by kernel_rfl) (by kernel_rfl) (by kernel_rfl) (fun _ _ _ h => h) (by rfl) (fun w' hw' => ?_) (fun _ => rfl) hS0 ?_
          rotate_left
          · (obtain ⟨g0, g1, g2, g3⟩ := hw'; go_simp; try with_reducible rfl)
          refine KeptAny.take (i := 8) (v := ?_) (by kernel_rfl) rfl rfl (by kernel_rfl) (by kernel_rfl) (by kernel_rfl) (fun _ _ _ h => h) (by rfl) (fun w' hw' => ?_) (fun _ => rfl) hS0 ?_
          rotate_left
          · (obtain ⟨g0, g1, g2, g3⟩ := hw'; go_simp; try with_reducible rfl)
          refine KeptAny.take (i := 9) (v := ?_) (by kernel_rfl) rfl rfl (by kernel_rfl) (by kernel_rfl) (by kernel_rfl) (fun _ _ _ h => h) (by rfl) (fun w' hw' => ?_) (fun _ => rfl) hS0 ?_
          rotate_left
          · (obtain ⟨g0, g1, g2, g3⟩ := hw'; go_simp; try with_reducible rfl)
          have HS0 := Lib.hid hS0
          clear hS0 s0 s1 s2 s3
          refine KeptAny.one (i := 10) (by kernel_rfl) rfl (by rfl) (fun K hK => ?_)
          go_simp
          refine ⟨trivial, ?_⟩
          refine ((callsIn_wide (n := 5)).2 (specLookUp3_any ss HV.out HF.out (some ⟨bb, off, none⟩) cap p HPL.out x.name _ (HC.out.below HB3.out.drew (Nat.le_refl _)))).mono ?_
          rintro e w4 ⟨u, rfl, hu, hb4⟩
          have HU := Lib.hid (ownsRow_lower hu HB3.out.drew.size)
          have HBE := Lib.hid (HB3.out.drew.trans (hb4.mono HB3.out.drew.size))
          have HS4 := Lib.hid (And.intro (cell_grow hb4 HS0.out.1) (And.intro (cell_grow hb4 HS0.out.2.1) (And.intro (cell_grow hb4 HS0.out.2.2.1) (cell_grow hb4 HS0.out.2.2.2))))
          clear hu hb4
          refine hK.out _ _ HS4.out (fun _ => ?_)
          clear hK
          refine KeptAny.one (i := 11) (by kernel_rfl) rfl (by rfl) (fun K hK => ?_)
          go_simp
          refine hK.out _ _ HS4.out (fun _ => ?_)
          clear hK
          refine KeptAny.one (i := 12) (by kernel_rfl) rfl (by rfl) (fun K hK => ?_)
          go_simp
          refine hK.out _ _ HS4.out (fun _ => ?_)
          clear hK
          refine KeptAny.done (by kernel_rfl) ?_ _
          obtain ⟨oU, cU, rfl⟩ := ownsRow_slice HU.out
          go_wp2
          go_ret2
          exact .inr ⟨HR.out.1, _, rfl, by rw [HR.out.2, HE.out]; exact HU.out, HBE.out⟩
    · have hq1 : (x.kind != 1) = true := by simpa using hk
      have HN : Hid (¬ declAt ss a b) := Lib.hid (by
        rintro ⟨_, y, hy, hyk⟩
        rw [hx] at hy
        cases hy
        exact hk hyk)
      clear hk hv hx
      go_wp2
      go_ret2
      exact .inl ⟨HN.out, _, rfl, HB1.out.alloc HB1.out.size _⟩
  · have HN : Hid (¬ declAt ss a b) := Lib.hid (fun h => by obtain ⟨hv, y, hy, _⟩ := h; exact hn ⟨hv, by rw [hy]; rfl⟩)
    clear hn
    go_wp2
    go_ret2
    exact .inl ⟨HN.out, _, rfl, HB1.out.alloc HB1.out.size _⟩
end Go.Proofs.YtoijapbffhkbbaaDoor
