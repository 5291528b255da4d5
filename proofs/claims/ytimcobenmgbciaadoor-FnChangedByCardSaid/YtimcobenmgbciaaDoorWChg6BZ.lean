/-
  The walks of ChangedBy and CanRemove, given and impl. Conditions: the argument's memory holds the graph; the package-level errors hold errors.
-/
import Derived.Test.YtimcobenmgbciaaDoorWChg6Z
import Derived.Test.YtimcobenmgbciaaDoorWCollZ
import Derived.Test.YtimcobenmgbciaaDoorWRemItemZ
namespace Go.Proofs.YtimcobenmgbciaaDoor
open Go Go.RowKit
/-- What items mean something else when the item at a place is removed. -/
def chgPI (ss : List Sc) (a b : Int) : List (Int × Int) := chgP ss a.toNat b.toNat
theorem chgPI_nat (ss : List Sc) (i j : Nat) : chgPI ss (i : Int) (j : Int) = chgP ss i j := by unfold chgPI; rw [Int.toNat_natCast, Int.toNat_natCast]
set_option maxRecDepth 100000 in
set_option maxHeartbeats 4000000 in
theorem specChangedBy_any (ss : List Sc) (hF : Fair ss) (oa : Option Addr) (cap : Nat) (a b : Int) (w : World) (hc : HoldsScopes w oa ss) :
    Calls Tryd.prog 26 #[.agg #[.slice oa ss.length cap], .agg #[.int .i64 a, .int .i64 b]] w (PlGot2 (itemHas ss a b) (chgPI ss a b) w) := by
  have hb0 : Below w.heap.size w ((w.alloc (.cells #[.slice oa ss.length cap] 25)).alloc (.cells #[.int .i64 a, .int .i64 b] 27)) := ((Below.refl _ _).alloc (Nat.le_refl _) _).alloc (by simp) _
  have R1 := (Row.new w [.slice oa ss.length cap] 25).alloc (.cells #[.int .i64 a, .int .i64 b] 27)
  have R2 := Row.new (w.alloc (.cells #[.slice oa ss.length cap] 25)) [.int .i64 a, .int .i64 b] 27
  rw [World.size_alloc] at R2
  have C := Lib.hid (specValid_any ss oa cap _ hF.fits (hc.below hb0 (Nat.le_refl _)))
  have HB := Lib.hid hb0
  have HR1 := Lib.hid R1
  have HR2 := Lib.hid R2
  have HF := Lib.hid hF
  have HC := Lib.hid hc
  have g1 := R1.cell (i := 0) (by rfl)
  clear hF hc hb0 R1 R2
  go_enter Tryd.func26, Tryd.ntmps26
  go_wp2_with fail
  refine C.out.mono ?_
  rintro e w1 ⟨q, rfl, hv, hb1⟩
  have HB1 := Lib.hid (HB.out.trans (hb1.mono HB.out.size))
  have HR1a := Lib.hid (HR1.out.below hb1 HR1.out.lt)
  have HR2a := Lib.hid (HR2.out.below hb1 HR2.out.lt)
  have HV := Lib.hid hv
  have g2 := HR1a.out.cell (i := 0) (v := .slice oa ss.length cap) (by rfl)
  have q0 := HR2a.out.cell (i := 0) (v := .int .i64 a) (by rfl)
  have q1 := HR2a.out.cell (i := 1) (v := .int .i64 b) (by rfl)
  clear hb1 hv g1
  cases q
  · have HN : Hid (¬ itemHas ss a b) := Lib.hid (fun h => by have := HV.out.2 h.1; cases this)
    go_wp2
    go_ret2
    exact .inl ⟨HN.out, _, rfl, HB1.out.alloc HB1.out.size _⟩
  · have HVV := Lib.hid (HV.out.1 rfl)
    have C2 := Lib.hid (specHas_any ss HF.out.fits oa cap a b _ (HC.out.below HB1.out (Nat.le_refl _)))
    go_wp2_with fail
    refine C2.out.mono ?_
    rintro e w2 ⟨rfl, hb2⟩
    have HB2 := Lib.hid (HB1.out.trans (hb2.mono HB1.out.size))
    have g3 := (HR1a.out.below hb2 HR1a.out.lt).cell (i := 0) (v := .slice oa ss.length cap) (by rfl)
    have t0 := (HR2a.out.below hb2 HR2a.out.lt).cell (i := 0) (v := .int .i64 a) (by rfl)
    have t1 := (HR2a.out.below hb2 HR2a.out.lt).cell (i := 1) (v := .int .i64 b) (by rfl)
    clear hb2 g2 q0 q1
    have hcase : itemAtP ss a b = none ∨ ∃ x, itemAtP ss a b = some x := by cases itemAtP ss a b <;> simp
    rcases hcase with hx | ⟨x, hx⟩
    · have HN : Hid (¬ itemHas ss a b) := Lib.hid (fun h => by have := h.2; rw [hx] at this; cases this)
      rw [hx]
      clear hx
      simp only [Option.isSome_none]
      go_wp2
      go_ret2
      exact .inl ⟨HN.out, _, rfl, HB2.out.alloc HB2.out.size _⟩
    · have HH : Hid (itemHas ss a b) := Lib.hid ⟨HVV.out, by rw [hx]; rfl⟩
      rw [hx]
      obtain ⟨i, j, c, rfl, rfl, hci, hxj⟩ := item_where hx
      have C3 := Lib.hid (l6Changed_any ss HVV.out HF.out oa cap i j hci hxj _ (HC.out.below HB2.out (Nat.le_refl _)))
      clear hx hci hxj
      simp only [Option.isSome_some]
      go_wp2_with fail
      refine C3.out.mono ?_
      rintro e w3 ⟨v, rfl, hown, hb3⟩
      have HO := Lib.hid (And.intro (hown.mono HB2.out.size) (HB2.out.trans (hb3.mono HB2.out.size)))
      clear hown hb3
      go_wp2
      go_ret2
      exact .inr ⟨HH.out, v, rfl, by rw [chgPI_nat]; exact HO.out.1, HO.out.2⟩
/-- A truth that tells whether a list is there and empty. -/
def CanVal2 (ok : Prop) (l : List (Int × Int)) (b : Bool) : Prop := (¬ ok ∧ b = false) ∨ (ok ∧ b = decide (l = []))
theorem CanVal2.same {ok : Prop} {l : List (Int × Int)} {b b' : Bool} (h : CanVal2 ok l b) (k : CanVal2 ok l b') : b = b' := by
  rcases h with ⟨h1, h2⟩ | ⟨h1, h2⟩ <;> rcases k with ⟨k1, k2⟩ | ⟨k1, k2⟩
  · rw [h2, k2]
  · exact absurd k1 h1
  · exact absurd h1 k1
  · rw [h2, k2]
theorem len_zero2 (l : List (Int × Int)) : ((l.length : Int) == 0) = decide (l = []) := by
  cases l with
  | nil => rfl
  | cons a r => simp; omega
/-- A place told to stand behind a removal. -/
theorem told_rmv {a b i j x y : Int} {ok : Bool} (h : (x, y, ok) = paV i j a b) : StTold (stRmv a b) (i, j) x y ok := by
  unfold paV at h
  unfold StTold stRmv
  dsimp only
  split at h
  · rename_i h1
    simp only [Prod.mk.injEq] at h
    exact .inr ⟨h.2.2, if_pos ⟨h1.1, h1.2⟩⟩
  · rename_i h1
    simp only [Prod.mk.injEq] at h
    refine .inl ⟨h.2.2, ?_⟩
    rw [if_neg (fun e => h1 ⟨e.1, e.2⟩), aftI_B]
    dsimp only
    rw [h.1, h.2.1]
set_option maxRecDepth 100000 in
theorem chg1_any (P : Nat) (a b i j : Int) (hb : -9223372036854775808 ≤ b ∧ b ≤ 9223372036854775807) (hj : -9223372036854775808 ≤ j ∧ j ≤ 9223372036854775807) (W : World) (hP : Row W P 27 [.int .i64 a, .int .i64 b]) :
    Calls Tryd.prog 69 #[.agg #[.int .i64 i, .int .i64 j], .pointer (some ⟨P, 0, none⟩)] W (PaGot i j a b W) := by
  have hb0 : Below W.heap.size W ((W.alloc (.cells #[.int .i64 i, .int .i64 j] 27)).alloc (.cells #[.int .i64 0, .int .i64 0] 27)) := ((Below.refl _ _).alloc (Nat.le_refl _) _).alloc (by simp) _
  have R1 := (Row.new W [.int .i64 i, .int .i64 j] 27).alloc (.cells #[.int .i64 0, .int .i64 0] 27)
  have R2 := Row.new (W.alloc (.cells #[.int .i64 i, .int .i64 j] 27)) [.int .i64 0, .int .i64 0] 27
  rw [World.size_alloc] at R2
  have RP := hP.below hb0 hP.lt
  have C := Lib.hid (implPlaceAfter_any i j a b hj hb ((W.alloc (.cells #[.int .i64 i, .int .i64 j] 27)).alloc (.cells #[.int .i64 0, .int .i64 0] 27)))
  have HR := Lib.hid R2
  have HB := Lib.hid hb0
  have p0 := R1.cell (i := 0) (v := .int .i64 i) (by rfl)
  have p1 := R1.cell (i := 1) (v := .int .i64 j) (by rfl)
  have q0 := RP.cell (i := 0) (v := .int .i64 a) (by rfl)
  have q1 := RP.cell (i := 1) (v := .int .i64 b) (by rfl)
  clear R1 R2 RP hb0 hP
  go_enter Tryd.func69, Tryd.ntmps69
  go_wp2_with fail
  refine C.out.mono ?_
  rintro e w1 ⟨x, y, ok, rfl, hv, hb1⟩
  have HB1 := Lib.hid (HB.out.trans (hb1.mono HB.out.size))
  have HR1 := Lib.hid (HR.out.below hb1 HR.out.lt)
  have m0 := HR1.out.cell (i := 0) (v := .int .i64 0) (by rfl)
  have m1 := HR1.out.cell (i := 1) (v := .int .i64 0) (by rfl)
  have f0 := HR1.out.frozen 0
  have f1 := HR1.out.frozen 1
  have HV := Lib.hid hv
  clear hb1 hv p0 p1 q0 q1
  go_wp2
  have RT := (HR1.out.set 0 (.int .i64 x)).set 1 (.int .i64 y)
  have d0 := RT.cell (i := 0) (v := .int .i64 x) (by rfl)
  have d1 := RT.cell (i := 1) (v := .int .i64 y) (by rfl)
  refine bodyPost_ret (v := .tuple #[.agg #[.int .i64 x, .int .i64 y], .bool ok]) (by simp [results, Tryd.results69, go_sem, d0, d1]) rfl ⟨x, y, ok, rfl, HV.out, (HB1.out.setCell (by simp) _).setCell (by simp) _⟩
theorem stands_rmv {w : World} {P : Nat} {a b : Int} (hb : -9223372036854775808 ≤ b ∧ b ≤ 9223372036854775807) (hP : Row w P 27 [.int .i64 a, .int .i64 b]) : StandsOk w (.func (.func 69) #[] #[.pointer (some ⟨P, 0, none⟩)]) (stRmv a b) :=
  ⟨_, #[.pointer (some ⟨P, 0, none⟩)], rfl, enters_of Tryd.func69 (by kernel_rfl) rfl, fun i j W hi hj hW => (chg1_any P a b (i : Int) (j : Int) hb ⟨by omega, by omega⟩ W (hP.below hW hP.lt)).mono fun _ _ h => by
    obtain ⟨x, y, ok, h1, h2, h3⟩ := h
    exact ⟨x, y, ok, h1, told_rmv h2, h3⟩⟩
theorem stands_in_rmv {ss : List Sc} {a b : Nat} : StandsIn ss (rmvP ss a b) (stRmv (a : Int) (b : Int)) := by
  rintro ⟨i, j, x⟩ hq p hp
  unfold stRmv plOf at hp
  dsimp only at hp
  split at hp
  · cases hp
  · rename_i h1
    obtain rfl := Option.some.inj hp
    rw [aftI_nat]
    exact ⟨i, aftN a b i j, x, rfl, placed_rmv hq (fun e => h1 ⟨by rw [e.1], by rw [e.2]⟩)⟩
set_option maxRecDepth 100000 in
set_option maxHeartbeats 4000000 in
theorem implChangedBy_any (ss : List Sc) (hF : Fair ss) (oa : Option Addr) (cap : Nat) (a b : Int) (ha : (Lit.int .i64 a).wf = true) (hb' : (Lit.int .i64 b).wf = true) (w : World) (hc : HoldsScopes w oa ss) (hE : TreeErrs w) :
    Calls Tryd.prog 25 #[.agg #[.slice oa ss.length cap], .agg #[.int .i64 a, .int .i64 b]] w (PlGot (itemHas ss a b) (chgPI ss a b) w) := by
  have hb0 : Below w.heap.size w ((w.alloc (.cells #[.slice oa ss.length cap] 25)).alloc (.cells #[.int .i64 a, .int .i64 b] 27)) := ((Below.refl _ _).alloc (Nat.le_refl _) _).alloc (by simp) _
  have R1 := (Row.new w [.slice oa ss.length cap] 25).alloc (.cells #[.int .i64 a, .int .i64 b] 27)
  have R2 := Row.new (w.alloc (.cells #[.slice oa ss.length cap] 25)) [.int .i64 a, .int .i64 b] 27
  rw [World.size_alloc] at R2
  have C := Lib.hid (implRemoveItem_any ss hF oa cap a b ha hb' _ (hc.below hb0 (Nat.le_refl _)) (hE.below hb0 hE.size))
  have HB := Lib.hid hb0
  have HR1 := Lib.hid R1
  have HR2 := Lib.hid R2
  have HF := Lib.hid hF
  have HC := Lib.hid hc
  have HE := Lib.hid hE
  have g1 := R1.cell (i := 0) (by rfl)
  have q0 := R2.cell (i := 0) (v := .int .i64 a) (by rfl)
  have q1 := R2.cell (i := 1) (v := .int .i64 b) (by rfl)
  clear hF hc hb0 R1 R2 hE ha hb'
  go_enter Tryd.func25, Tryd.ntmps25
  go_wp2_with fail
  refine C.out.mono ?_
  rintro e w1 (⟨hn, v, hs, rfl, hO, hb1⟩ | ⟨hh, v, hs, rfl, hO, hb1⟩)
  · obtain ⟨ov, cv, rfl, -⟩ := hO.holds
    have HN := Lib.hid hn
    have hbx := hb1.trans (((Below.refl w1.heap.size w1).alloc (Nat.le_refl _) (.cells #[.slice ov ([] : List Sc).length cv] 25)).mono hb1.size)
    have HB1 := Lib.hid (HB.out.trans (hbx.mono HB.out.size))
    clear hn hb1 hbx hO g1 q0 q1
    go_wp2
    go_ret2
    exact .inl ⟨HN.out, rfl, HB1.out⟩
  · have hcase : ∃ x, itemAtP ss a b = some x := by have h2 := hh.2; cases hx : itemAtP ss a b with
      | none => rw [hx] at h2; cases h2
      | some x => exact ⟨x, rfl⟩
    obtain ⟨x, hx⟩ := hcase
    obtain ⟨i, j, c, rfl, rfl, hci, hxj⟩ := item_where hx
    rw [rmvAt_nat] at hO
    obtain ⟨ov, cv, rfl, -⟩ := hO.holds
    have hbN := (Below.refl w1.heap.size w1).alloc (Nat.le_refl _) (.cells #[.slice ov (rmvP ss i j).length cv] 25)
    have hbx := hb1.trans (hbN.mono hb1.size)
    have HB1 := Lib.hid (HB.out.trans (hbx.mono HB.out.size))
    have a0 := (Row.new w1 [.slice ov (rmvP ss i j).length cv] 25).cell (i := 0) (v := .slice ov (rmvP ss i j).length cv) (by rfl)
    have gx := (HR1.out.below hbx HR1.out.lt).cell (i := 0) (v := .slice oa ss.length cap) (by rfl)
    have RPX := HR2.out.below hbx HR2.out.lt
    have hj : -9223372036854775808 ≤ (j : Int) ∧ (j : Int) ≤ 9223372036854775807 := ⟨by omega, by have h1 := (List.getElem?_eq_some_iff.1 hxj).1; have h2 := hh.1.five c (List.mem_of_getElem? hci); omega⟩
    have C2 := Lib.hid (between_any ss (rmvP ss i j) hh.1 (Valid.rmv hh.1 i j) HF.out (HF.out.rmv i j) oa ov cap cv (.func (.func 69) #[] #[.pointer (some ⟨w.heap.size + 1, 0, none⟩)]) (stRmv (i : Int) (j : Int)) stands_in_rmv _ (HC.out.below HB1.out (Nat.le_refl _)) (hO.below hbN).holdsAt6 (HE.out.below HB1.out HE.out.size) (stands_rmv hj RPX))
    have HH := Lib.hid hh
    clear hh hx hci hxj hO hbN hb1 hbx RPX g1 q0 q1 hj
    go_wp2_with fail
    refine C2.out.mono ?_
    rintro e w2 ⟨v5, rfl, hown, hb5⟩
    rw [chgG_rmv] at hown
    have HO := Lib.hid (And.intro (hown.mono HB1.out.size) (HB1.out.trans (hb5.mono HB1.out.size)))
    clear hown hb5
    go_wp2
    go_ret2
    exact .inr ⟨HH.out, v5, rfl, by rw [chgPI_nat]; exact HO.out.1, HO.out.2⟩
set_option maxRecDepth 100000 in
set_option maxHeartbeats 4000000 in
theorem specCanRemove_any (ss : List Sc) (hF : Fair ss) (oa : Option Addr) (cap : Nat) (a b : Int) (w : World) (hc : HoldsScopes w oa ss) :
    Calls Tryd.prog 28 #[.agg #[.slice oa ss.length cap], .agg #[.int .i64 a, .int .i64 b]] w fun e w' => ∃ q, e = .returned (.bool q) ∧ CanVal2 (itemHas ss a b) (chgPI ss a b) q ∧ Below w.heap.size w w' := by
  have hb0 : Below w.heap.size w ((w.alloc (.cells #[.slice oa ss.length cap] 25)).alloc (.cells #[.int .i64 a, .int .i64 b] 27)) := ((Below.refl _ _).alloc (Nat.le_refl _) _).alloc (by simp) _
  have R1 := (Row.new w [.slice oa ss.length cap] 25).alloc (.cells #[.int .i64 a, .int .i64 b] 27)
  have R2 := Row.new (w.alloc (.cells #[.slice oa ss.length cap] 25)) [.int .i64 a, .int .i64 b] 27
  rw [World.size_alloc] at R2
  have C := Lib.hid (specChangedBy_any ss hF oa cap a b _ (hc.below hb0 (Nat.le_refl _)))
  have HB := Lib.hid hb0
  have g1 := R1.cell (i := 0) (by rfl)
  have q0 := R2.cell (i := 0) (v := .int .i64 a) (by rfl)
  have q1 := R2.cell (i := 1) (v := .int .i64 b) (by rfl)
  clear hF hc hb0 R1 R2
  go_enter Tryd.func28, Tryd.ntmps28
  go_wp2_with fail
  refine C.out.mono ?_
  rintro e w1 (⟨hn, g, rfl, hb⟩ | ⟨hok, v, rfl, hown, hb⟩)
  · have HN := Lib.hid (And.intro hn (HB.out.trans (hb.mono HB.out.size)))
    clear hn hb
    go_wp2
    go_ret
    exact ⟨false, rfl, .inl ⟨HN.out.1, rfl⟩, HN.out.2⟩
  · obtain ⟨ov, cv, rfl⟩ := ownsRow_slice hown
    obtain ⟨q, hq⟩ : ∃ q, ((((chgPI ss a b).length : Nat) : Int) == 0) = q := ⟨_, rfl⟩
    have HN := Lib.hid (And.intro hok (And.intro (hq.symm.trans (len_zero2 _)) (HB.out.trans (hb.mono HB.out.size))))
    clear hok hown hb
    cases q
    all_goals go_wp2
    all_goals go_ret
    all_goals exact ⟨_, rfl, .inr ⟨HN.out.1, HN.out.2.1⟩, HN.out.2.2⟩
set_option maxRecDepth 100000 in
set_option maxHeartbeats 4000000 in
theorem implCanRemove_any (ss : List Sc) (hF : Fair ss) (oa : Option Addr) (cap : Nat) (a b : Int) (ha : (Lit.int .i64 a).wf = true) (hb' : (Lit.int .i64 b).wf = true) (w : World) (hc : HoldsScopes w oa ss) (hE : TreeErrs w) :
    Calls Tryd.prog 27 #[.agg #[.slice oa ss.length cap], .agg #[.int .i64 a, .int .i64 b]] w fun e w' => ∃ q, e = .returned (.bool q) ∧ CanVal2 (itemHas ss a b) (chgPI ss a b) q ∧ Below w.heap.size w w' := by
  have hb0 : Below w.heap.size w ((w.alloc (.cells #[.slice oa ss.length cap] 25)).alloc (.cells #[.int .i64 a, .int .i64 b] 27)) := ((Below.refl _ _).alloc (Nat.le_refl _) _).alloc (by simp) _
  have R1 := (Row.new w [.slice oa ss.length cap] 25).alloc (.cells #[.int .i64 a, .int .i64 b] 27)
  have R2 := Row.new (w.alloc (.cells #[.slice oa ss.length cap] 25)) [.int .i64 a, .int .i64 b] 27
  rw [World.size_alloc] at R2
  have C := Lib.hid (implChangedBy_any ss hF oa cap a b ha hb' _ (hc.below hb0 (Nat.le_refl _)) (hE.below hb0 hE.size))
  have HB := Lib.hid hb0
  have g1 := R1.cell (i := 0) (by rfl)
  have q0 := R2.cell (i := 0) (v := .int .i64 a) (by rfl)
  have q1 := R2.cell (i := 1) (v := .int .i64 b) (by rfl)
  clear hF hc hb0 R1 R2 hE ha hb'
  go_enter Tryd.func27, Tryd.ntmps27
  go_wp2_with fail
  refine C.out.mono ?_
  rintro e w1 (⟨hn, rfl, hb⟩ | ⟨hok, v, rfl, hown, hb⟩)
  · have HN := Lib.hid (And.intro hn (HB.out.trans (hb.mono HB.out.size)))
    clear hn hb
    go_wp2
    go_ret
    exact ⟨false, rfl, .inl ⟨HN.out.1, rfl⟩, HN.out.2⟩
  · obtain ⟨ov, cv, rfl⟩ := ownsRow_slice hown
    obtain ⟨q, hq⟩ : ∃ q, ((((chgPI ss a b).length : Nat) : Int) == 0) = q := ⟨_, rfl⟩
    have HN := Lib.hid (And.intro hok (And.intro (hq.symm.trans (len_zero2 _)) (HB.out.trans (hb.mono HB.out.size))))
    clear hok hown hb
    cases q
    all_goals go_wp2
    all_goals go_ret
    all_goals exact ⟨_, rfl, .inr ⟨HN.out.1, HN.out.2.1⟩, HN.out.2.2⟩
end Go.Proofs.YtimcobenmgbciaaDoor
