/-
  The walks of the given functions that draw a graph and a number, or a name too. Condition: the argument's memory holds bytes.
-/
import Derived.Test.YtoijapbffhkbbaaDoorWDraws2
namespace Go.Proofs.YtoijapbffhkbbaaDoor
open Go Go.RowKit Sg
def Drawn2 (w : World) (e : Ending) (w' : World) : Prop := ∃ ss ov cv s, e = .returned (.tuple #[.agg #[.slice ov (List.length ss) cv], .int .i64 s]) ∧ HoldsScopes w' ov ss ∧ Lit1 210 ss ∧ I64 s ∧ Below w.heap.size w w'
set_option maxRecDepth 100000 in
theorem drawChainOf_any {w : World} {oa : Option Addr} {len cap : Nat} (h : HoldsBytes w oa len) (hl : len ≤ 2 ^ 62) (hlc : len ≤ cap) : Calls Tryd.prog 45 #[.slice oa len cap] w (Drawn2 w) := by
  have hbA := (Below.refl w.heap.size w).alloc (Nat.le_refl _) (.cells #[.slice none 0 0] 30)
  have RA := Lib.hid (Row.new w [.slice none 0 0] 30)
  have C := Lib.hid (open_any (h.below hbA) hl hlc)
  have HBA := Lib.hid hbA
  clear h hbA hl hlc
  go_enter Tryd.func45, Tryd.ntmps45
  go_wp2_with fail
  refine C.out.mono ?_
  rintro e w1 ⟨r, ob, n, c, rfl, hr, hrd, hb1⟩
  have HB1 := Lib.hid (HBA.out.trans (hb1.mono HBA.out.size))
  have R1 := Lib.hid (RA.out.below hb1 RA.out.lt)
  have C2 := Lib.hid (some2_any hrd (by omega))
  have HR := Lib.hid (show w.heap.size < r by simp at hr; omega)
  clear hr hrd hb1
  go_wp2_with fail
  refine C2.out.mono ?_
  rintro e w2 ⟨ss, v, hs, s, rfl, hg, hl, hsI, hr2⟩
  obtain ⟨ov, cv, rfl, -⟩ := hg.holds
  have R2 := Lib.hid (R1.out.asked hr2.turns (by have := HR.out; omega))
  have HB2 : Hid (Below w.heap.size w w2) := Lib.hid (HB1.out.trans (hr2.turns.below (by have := HR.out; omega) (by have := HR.out; omega) HB1.out.size))
  have HG := Lib.hid (hg.other R2.out (by decide) (by decide) 0 (.slice ov ss.length cv))
  have HE := Lib.hid (HB2.out.setCell (p := ⟨w.heap.size, 0, none⟩) (Nat.le_refl _) (.slice ov ss.length cv))
  have t2 := R2.out.cell (i := 0) (v := .slice none 0 0) (by rfl)
  have f2 := R2.out.frozen 0
  have d2 := (R2.out.set 0 (.slice ov ss.length cv)).cell (i := 0) (v := .slice ov ss.length cv) (by rfl)
  have HLL := Lib.hid hl
  have HSS := Lib.hid hsI
  clear hg hl hr2 hsI
  go_wp2
  obtain ⟨oe, ce, he, hH⟩ := HG.out.holds
  cases he
  exact bodyPost_ret (v := .tuple #[.agg #[.slice ov ss.length cv], .int .i64 s]) (by simp [results, Tryd.results45, go_sem, d2]) rfl ⟨ss, _, _, s, rfl, hH, HLL.out, HSS.out, HE.out⟩
set_option maxRecDepth 100000 in
theorem drawImportedOf_any {w : World} {oa : Option Addr} {len cap : Nat} (h : HoldsBytes w oa len) (hl : len ≤ 2 ^ 62) (hlc : len ≤ cap) : Calls Tryd.prog 35 #[.slice oa len cap] w (Drawn3 w) := by
  have hbA := (Below.refl w.heap.size w).alloc (Nat.le_refl _) (.cells #[.slice none 0 0] 30)
  have RA := Lib.hid (Row.new w [.slice none 0 0] 30)
  have C := Lib.hid (open_any (h.below hbA) hl hlc)
  have HBA := Lib.hid hbA
  clear h hbA hl hlc
  go_enter Tryd.func35, Tryd.ntmps35
  go_wp2_with fail
  refine C.out.mono ?_
  rintro e w1 ⟨r, ob, n, c, rfl, hr, hrd, hb1⟩
  have HB1 := Lib.hid (HBA.out.trans (hb1.mono HBA.out.size))
  have R1 := Lib.hid (RA.out.below hb1 RA.out.lt)
  have C2 := Lib.hid (some3_any hrd (by omega))
  have HR := Lib.hid (show w.heap.size < r by simp at hr; omega)
  clear hr hrd hb1
  go_wp2_with fail
  refine C2.out.mono ?_
  rintro e w2 ⟨ss, v, hs, s, nm, rfl, hg, hl, hsI, hnm, hr2⟩
  obtain ⟨ov, cv, rfl, -⟩ := hg.holds
  have R2 := Lib.hid (R1.out.asked hr2.turns (by have := HR.out; omega))
  have HB2 : Hid (Below w.heap.size w w2) := Lib.hid (HB1.out.trans (hr2.turns.below (by have := HR.out; omega) (by have := HR.out; omega) HB1.out.size))
  have HG := Lib.hid (hg.other R2.out (by decide) (by decide) 0 (.slice ov ss.length cv))
  have HE := Lib.hid (HB2.out.setCell (p := ⟨w.heap.size, 0, none⟩) (Nat.le_refl _) (.slice ov ss.length cv))
  have t2 := R2.out.cell (i := 0) (v := .slice none 0 0) (by rfl)
  have f2 := R2.out.frozen 0
  have d2 := (R2.out.set 0 (.slice ov ss.length cv)).cell (i := 0) (v := .slice ov ss.length cv) (by rfl)
  have HLL := Lib.hid hl
  have HSS := Lib.hid hsI
  have HNM := Lib.hid hnm
  clear hg hl hr2 hsI hnm
  go_wp2
  obtain ⟨oe, ce, he, hH⟩ := HG.out.holds
  cases he
  exact bodyPost_ret (v := .tuple #[.agg #[.slice ov ss.length cv], .int .i64 s, .string nm]) (by simp [results, Tryd.results35, go_sem, d2]) rfl ⟨ss, _, _, s, nm, rfl, hH, HLL.out, HSS.out, HNM.out, HE.out⟩
end Go.Proofs.YtoijapbffhkbbaaDoor
