/-
  The walks of RemoveItem, given and impl. Conditions: the argument's memory holds the graph; the package-level errors hold errors.
-/
import Derived.Test.YtimcobenmgbciaaDoorWSpecRemove2Z
import Derived.Test.YtimcobenmgbciaaDoorWMarkRZ
namespace Go.Proofs.YtimcobenmgbciaaDoor
open Go Go.RowKit
/-- The graph without the item at a place. -/
def rmvAt (ss : List Sc) (a b : Int) : List Sc := rmvP ss a.toNat b.toNat
theorem rmvAt_nat (ss : List Sc) (i j : Nat) : rmvAt ss (i : Int) (j : Int) = rmvP ss i j := by unfold rmvAt; rw [Int.toNat_natCast, Int.toNat_natCast]
theorem item_where {ss : List Sc} {a b : Int} {x : It} (h : itemAtP ss a b = some x) : ∃ (i j : Nat) (c : Sc), a = (i : Int) ∧ b = (j : Int) ∧ ss[i]? = some c ∧ c.items[j]? = some x := by
  unfold itemAtP at h
  split at h
  · rename_i h0
    obtain ⟨c, hc, hx⟩ := Option.bind_eq_some_iff.1 h
    exact ⟨a.toNat, b.toNat, c, by omega, by omega, hc, hx⟩
  · cases h
set_option maxRecDepth 100000 in
set_option maxHeartbeats 4000000 in
theorem implRemoveItem_any (ss : List Sc) (hF : Fair ss) (oa : Option Addr) (cap : Nat) (a b : Int) (ha : (Lit.int .i64 a).wf = true) (hb' : (Lit.int .i64 b).wf = true) (w : World) (hc : HoldsScopes w oa ss) (hE : TreeErrs w) :
    Calls Tryd.prog 67 #[.agg #[.slice oa ss.length cap], .agg #[.int .i64 a, .int .i64 b]] w (GrGot (itemHas ss a b) (rmvAt ss a b) w) := by
  have hb0 : Below w.heap.size w (((w.alloc (.cells #[.slice oa ss.length cap] 25)).alloc (.cells #[.int .i64 a, .int .i64 b] 27)).alloc (.cells #[.slice none 0 0] 25)) := (((Below.refl _ _).alloc (Nat.le_refl _) _).alloc (by simp) _).alloc (by simp; omega) _
  have R1 := ((Row.new w [.slice oa ss.length cap] 25).alloc (.cells #[.int .i64 a, .int .i64 b] 27)).alloc (.cells #[.slice none 0 0] 25)
  have R2 := (Row.new (w.alloc (.cells #[.slice oa ss.length cap] 25)) [.int .i64 a, .int .i64 b] 27).alloc (.cells #[.slice none 0 0] 25)
  have R3 := Row.new ((w.alloc (.cells #[.slice oa ss.length cap] 25)).alloc (.cells #[.int .i64 a, .int .i64 b] 27)) [.slice none 0 0] 25
  rw [World.size_alloc] at R2
  rw [World.size_alloc, World.size_alloc] at R3
  have C := Lib.hid (implItemAt_any ss hF oa cap a b ha hb' _ (hc.below hb0 (Nat.le_refl _)) (hE.below hb0 hE.size))
  have HB := Lib.hid hb0
  have HR1 := Lib.hid R1
  have HR2 := Lib.hid R2
  have HR3 := Lib.hid R3
  have HF := Lib.hid hF
  have HC := Lib.hid hc
  have g1 := R1.cell (i := 0) (by rfl)
  have p0 := R2.cell (i := 0) (by rfl)
  have p1 := R2.cell (i := 1) (by rfl)
  clear hF hc hE hb0 R1 R2 R3
  go_enter Tryd.func67, Tryd.ntmps67
  go_wp2_with fail
  refine C.out.mono ?_
  rintro e w1 ⟨x, ok, rfl, hcase, hb1⟩
  have hbx := hb1.trans ((Below.refl w1.heap.size w1).alloc (Nat.le_refl _) (.cells #[.int .i64 x.kind, .string x.name, .int .i64 x.scope] 38) |>.mono hb1.size)
  have HB1 := Lib.hid (HB.out.trans (hbx.mono HB.out.size))
  have HR3a := Lib.hid (HR3.out.below hbx HR3.out.lt)
  have g2 := (HR1.out.below hbx HR1.out.lt).cell (i := 0) (v := .slice oa ss.length cap) (by rfl)
  have q0 := (HR2.out.below hbx HR2.out.lt).cell (i := 0) (v := .int .i64 a) (by rfl)
  have q1 := (HR2.out.below hbx HR2.out.lt).cell (i := 1) (v := .int .i64 b) (by rfl)
  have n0 := HR3a.out.cell (i := 0) (v := .slice none 0 0) (by rfl)
  have f0 := HR3a.out.frozen 0
  have HCS := Lib.hid hcase
  clear hb1 hbx hcase g1 p0 p1
  unfold itV
  cases ok
  · have HN : Hid (¬ itemHas ss a b) := Lib.hid (by
      rcases HCS.out with ⟨_, _, h⟩ | ⟨h, _⟩
      · cases h
      · exact h)
    go_wp2
    have RT := HR3a.out.set 0 (.slice none 0 0)
    have d0 := RT.cell (i := 0) (v := .slice none 0 0) (by rfl)
    refine bodyPost_ret (v := .tuple #[.agg #[.slice none 0 0], .bool false]) (by simp [results, Tryd.results67, go_sem, d0]) rfl (.inl ⟨HN.out, _, [], rfl, OwnGr.nil _ _, HB1.out.setCell (by simp; omega) _⟩)
  · obtain ⟨hv, hx⟩ : Valid ss ∧ itemAtP ss a b = some x := by
      rcases HCS.out with ⟨h1, h2, _⟩ | ⟨_, _, h⟩
      · exact ⟨h1, h2⟩
      · cases h
    have HH : Hid (itemHas ss a b) := Lib.hid ⟨hv, by rw [hx]; rfl⟩
    obtain ⟨i, j, c, rfl, rfl, hci, hxj⟩ := item_where hx
    have C2 := Lib.hid (without_any ss HF.out oa cap i j c x hci hxj _ (HC.out.below HB1.out (Nat.le_refl _)))
    clear hv hx hci hxj
    go_wp2_with fail
    refine C2.out.mono ?_
    rintro e w2 ⟨v, hs, rfl, hO, hb2⟩
    obtain ⟨ov, cv, rfl, -⟩ := hO.holds
    have HB2 := Lib.hid (HB1.out.trans (hb2.mono HB1.out.size))
    have HR3b := Lib.hid (HR3a.out.below hb2 HR3a.out.lt)
    have HO := Lib.hid (hO.lower HB1.out.size)
    have m0 := HR3b.out.cell (i := 0) (v := .slice none 0 0) (by rfl)
    have l0 := HR3b.out.frozen 0
    clear hO hb2 n0 f0 g2 q0 q1
    go_wp2
    have RT := HR3b.out.set 0 (.slice ov (rmvP ss i j).length cv)
    have d0 := RT.cell (i := 0) (v := .slice ov (rmvP ss i j).length cv) (by rfl)
    refine bodyPost_ret (v := .tuple #[.agg #[.slice ov (rmvP ss i j).length cv], .bool true]) (by simp [results, Tryd.results67, go_sem, d0]) rfl (.inr ⟨HH.out, _, hs, rfl, ?_, HB2.out.setCell (by simp; omega) _⟩)
    rw [rmvAt_nat]
    exact ⟨HO.out.len, ownsRow_otherN HO.out.row HR3b.out (by decide) 0 _, fun k t z h1 h2 => ownsRow_otherN (HO.out.items k t z h1 h2) HR3b.out (by decide) 0 _, HO.out.apart⟩
end Go.Proofs.YtimcobenmgbciaaDoor
