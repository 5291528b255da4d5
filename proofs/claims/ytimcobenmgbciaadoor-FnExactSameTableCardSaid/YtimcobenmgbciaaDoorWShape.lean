/-
  The walks of the given and of impl's SameShape, of impl's sameShape for items and scopes, and of slices.EqualFunc with them. Conditions: the arguments' memory holds the graphs; impl's: the package-level errors hold errors.
-/
import Derived.Test.YtimcobenmgbciaaDoorWRemItem
import Derived.Test.YtimcobenmgbciaaDoorWImplValid
import Derived.Test.YtimcobenmgbciaaDoorWSpecValid
import Derived.Test.YtimcobenmgbciaaDoorJC
import Derived.Deep.QuietTactic
import Derived.BigQuiet
namespace Go.Proofs.YtimcobenmgbciaaDoor
open Go Go.RowKit
/-- What of an item, of a scope a shape holds. -/
def shI (x : It) : Int × Int := (x.kind, x.scope)
def shS (s : Sc) : Int × List (Int × Int) := (s.parent, s.items.map shI)
theorem map_get {α β : Type} {f : α → β} {xs ys : List α} (h : xs.map f = ys.map f) {k : Nat} {x y : α} (hx : xs[k]? = some x) (hy : ys[k]? = some y) : f x = f y := by
  have h1 : (xs.map f)[k]? = (ys.map f)[k]? := by rw [h]
  rw [List.getElem?_map, List.getElem?_map, hx, hy] at h1
  exact Option.some.inj h1
theorem map_all {α β : Type} {f : α → β} {xs ys : List α} (hl : xs.length = ys.length) (h : ∀ (k : Nat) (x y : α), xs[k]? = some x → ys[k]? = some y → f x = f y) : xs.map f = ys.map f := by
  refine List.ext_getElem? fun k => ?_
  rw [List.getElem?_map, List.getElem?_map]
  by_cases hk : k < xs.length
  · rw [List.getElem?_eq_getElem hk, List.getElem?_eq_getElem (show k < ys.length by omega)]
    exact congrArg some (h k _ _ (List.getElem?_eq_getElem hk) (List.getElem?_eq_getElem (by omega)))
  · rw [List.getElem?_eq_none (by omega), List.getElem?_eq_none (by omega)]
theorem HoldsItems.got {w : World} {oa : Option Addr} {xs : List It} (h : HoldsItems w oa xs) {k : Nat} {x : It} (hx : xs[k]? = some x) : ∃ b off, oa = some ⟨b, off, none⟩ ∧ b < w.heap.size ∧ w.cell? ⟨b, off + k * 3, none⟩ = some (.int .i64 x.kind) ∧ w.cell? ⟨b, off + k * 3 + 1, none⟩ = some (.string x.name) ∧ w.cell? ⟨b, off + k * 3 + 2, none⟩ = some (.int .i64 x.scope) := by
  rcases h with rfl | ⟨b, off, h1, h2, h3⟩
  · cases hx
  · exact ⟨b, off, h1, h2, h3 k x hx⟩
theorem HoldsScopes.got {w : World} {oa : Option Addr} {ss : List Sc} (h : HoldsScopes w oa ss) {k : Nat} {s : Sc} (hx : ss[k]? = some s) : ∃ b off, oa = some ⟨b, off, none⟩ ∧ b < w.heap.size ∧ ∃ (oi : Option Addr) (ci : Nat), w.cell? ⟨b, off + k * 2, none⟩ = some (.int .i64 s.parent) ∧ w.cell? ⟨b, off + k * 2 + 1, none⟩ = some (.slice oi s.items.length ci) ∧ HoldsItems w oi s.items := by
  rcases h with rfl | ⟨b, off, h1, h2, h3⟩
  · cases hx
  · exact ⟨b, off, h1, h2, h3 k s hx⟩
set_option maxRecDepth 100000 in
theorem itemSame_any (x y : It) (w : World) :
    Calls Tryd.prog 141 #[.agg #[.int .i64 x.kind, .string x.name, .int .i64 x.scope], .agg #[.int .i64 y.kind, .string y.name, .int .i64 y.scope]] w fun e w' => e = .returned (.bool (decide (shI x = shI y))) ∧ Below w.heap.size w w' := by
  have hb := Lib.hid (((Below.refl w.heap.size w).alloc (Nat.le_refl _) (.cells #[.int .i64 x.kind, .string x.name, .int .i64 x.scope] 38)).alloc (by simp) (.cells #[.int .i64 y.kind, .string y.name, .int .i64 y.scope] 38))
  obtain ⟨a, n, b⟩ := x
  obtain ⟨c, m, d⟩ := y
  simp only [shI] at hb ⊢
  by_cases h1 : a = c
  · subst h1
    by_cases h2 : b = d
    · subst h2
      go_enter Tryd.func141, Tryd.ntmps141
      go_wp2
      go_ret
      exact ⟨by simp, hb.out⟩
    · have e1 : (b == d) = false := by simpa using h2
      have H2 := Lib.hid h2
      clear h2
      go_enter Tryd.func141, Tryd.ntmps141
      go_wp2
      go_ret
      exact ⟨by simp [H2.out], hb.out⟩
  · have e1 : (a == c) = false := by simpa using h1
    have H1 := Lib.hid h1
    clear h1
    go_enter Tryd.func141, Tryd.ntmps141
    go_wp2
    go_ret
    exact ⟨by simp [H1.out], hb.out⟩
set_option maxRecDepth 100000 in
set_option maxHeartbeats 4000000 in
theorem eqItems_any (xs ys : List It) (ox oy : Option Addr) (cx cy : Nat) (w : World) (hx : xs.length ≤ 1000000) (ax : HoldsItems w ox xs) (ay : HoldsItems w oy ys) :
    Calls Tryd.prog 140 #[.slice ox xs.length cx, .slice oy ys.length cy, .func (.func 141) #[] #[]] w fun e w' => e = .returned (.bool (decide (xs.map shI = ys.map shI))) ∧ Below w.heap.size w w' := by
  have AX := Lib.hid ax
  have AY := Lib.hid ay
  clear ax ay
  by_cases hl : xs.length = ys.length
  · have l1 : ((xs.length : Int) != (ys.length : Int)) = false := by simp [hl]
    have l2 : ((xs.length : Int) == (ys.length : Int)) = true := by simp [hl]
    have HL := Lib.hid hl
    clear hl
    obtain ⟨q, hq⟩ : ∃ q, decide (xs.map shI = ys.map shI) = q := ⟨_, rfl⟩
    rw [hq]
    have HQ := Lib.hid hq
    clear hq
    go_enter Tryd.func140, Tryd.ntmps140
    go_wp2
    go_loopw [17] (fun i wr => ∃ k : Nat, i = .int .i64 k ∧ k ≤ xs.length ∧ Hid (∀ m x y, m < k → xs[m]? = some x → ys[m]? = some y → shI x = shI y) ∧ Hid (Below w.heap.size w wr)) (fun i _ => xs.length - (intOf i).toNat)
    case atStart => exact ⟨0, rfl, Nat.zero_le _, Lib.hid (fun m x y hm => absurd hm (by omega)), Lib.hid (Below.refl _ _)⟩
    case round =>
      obtain ⟨k, rfl, hk, HR, HW⟩ := hrel
      by_cases hlt : k < xs.length
      · have hlt2 : k < ys.length := by have := HL.out; omega
        obtain ⟨x, hp⟩ : ∃ x, xs[k]? = some x := ⟨_, List.getElem?_eq_getElem hlt⟩
        obtain ⟨y, hp2⟩ : ∃ y, ys[k]? = some y := ⟨_, List.getElem?_eq_getElem hlt2⟩
        obtain ⟨b1, f1, rfl, hb1, x0, x1, x2⟩ := (AX.out.below HW.out (Nat.le_refl _)).got hp
        obtain ⟨b2, f2, rfl, hb2, y0, y1, y2⟩ := (AY.out.below HW.out (Nat.le_refl _)).got hp2
        have HNX : Hid (shI x = shI y → ∀ m u v, m < k + 1 → xs[m]? = some u → ys[m]? = some v → shI u = shI v) := Lib.hid (by
          intro h m u v hm hu hv
          by_cases he : m = k
          · subst he
            rw [hp] at hu
            rw [hp2] at hv
            rw [← Option.some.inj hu, ← Option.some.inj hv, h]
          · exact HR.out m u v (by omega) hu hv)
        have HBAD : Hid (shI x ≠ shI y → q = false) := Lib.hid (by
          intro h
          rw [← HQ.out]
          exact decide_eq_false fun e => h (map_get e hp hp2))
        have HB1 := Lib.hid ((HW.out.alloc HW.out.size (.cells #[.int .i64 x.kind, .string x.name, .int .i64 x.scope] 38)).alloc (by simp; exact Nat.le_succ_of_le HW.out.size) (.cells #[.int .i64 y.kind, .string y.name, .int .i64 y.scope] 38))
        clear hp hp2
        have C := Lib.hid (fun W => itemSame_any x y W)
        obtain ⟨q1, hq1⟩ : ∃ q1, decide (shI x = shI y) = q1 := ⟨_, rfl⟩
        rw [hq1] at C
        have HQ1 := Lib.hid hq1
        clear hq1
        go_wp2_with fail
        refine (C.out _).mono ?_
        rintro e w2 ⟨rfl, hb2⟩
        have HW2 := Lib.hid (HB1.out.trans (hb2.mono HB1.out.size))
        clear hb2
        cases q1
        · have HF := Lib.hid (HBAD.out (of_decide_eq_false HQ1.out))
          go_wp2
          go_ret
          exact ⟨by rw [HF.out]; rfl, HW2.out⟩
        · have HG := Lib.hid (HNX.out (of_decide_eq_true HQ1.out))
          go_wp2
          go_roundw
          case rel => exact ⟨k + 1, by go_num, by omega, HG, HW2⟩
          case measure => simp only [intOf]; omega
      · obtain rfl : k = xs.length := by omega
        have HS : Hid (q = true) := Lib.hid (by
          rw [← HQ.out]
          exact decide_eq_true (map_all HL.out fun m u v hu hv => HR.out m u v (List.getElem?_eq_some_iff.1 hu).1 hu hv))
        go_wp2
        go_ret
        exact ⟨by rw [HS.out]; rfl, HW.out⟩
  · have l1 : ((xs.length : Int) != (ys.length : Int)) = true := by simp; omega
    have l2 : ((xs.length : Int) == (ys.length : Int)) = false := by simp; omega
    have HF : Hid (decide (xs.map shI = ys.map shI) = false) := Lib.hid (decide_eq_false fun e => hl (by have := congrArg List.length e; simpa using this))
    clear hl
    go_enter Tryd.func140, Tryd.ntmps140
    go_wp2
    go_ret
    exact ⟨by rw [HF.out]; rfl, Below.refl _ _⟩
set_option maxRecDepth 100000 in
set_option maxHeartbeats 4000000 in
theorem scopeSame_any (x y : Sc) (ox oy : Option Addr) (cx cy : Nat) (w : World) (hx : x.items.length ≤ 1000000) (ax : HoldsItems w ox x.items) (ay : HoldsItems w oy y.items) :
    Calls Tryd.prog 99 #[.agg #[.int .i64 x.parent, .slice ox x.items.length cx], .agg #[.int .i64 y.parent, .slice oy y.items.length cy]] w fun e w' => e = .returned (.bool (decide (shS x = shS y))) ∧ Below w.heap.size w w' := by
  have hb := Lib.hid (((Below.refl w.heap.size w).alloc (Nat.le_refl _) (.cells #[.int .i64 x.parent, .slice ox x.items.length cx] 118)).alloc (by simp) (.cells #[.int .i64 y.parent, .slice oy y.items.length cy] 118))
  have C := Lib.hid (eqItems_any x.items y.items ox oy cx cy _ hx (ax.below hb.out (Nat.le_refl _)) (ay.below hb.out (Nat.le_refl _)))
  clear ax ay
  by_cases h1 : x.parent = y.parent
  · obtain ⟨q, hq⟩ : ∃ q, decide (x.items.map shI = y.items.map shI) = q := ⟨_, rfl⟩
    have HS : Hid (decide (shS x = shS y) = q) := Lib.hid (by rw [← hq]; simp [shS, h1])
    rw [hq] at C
    rw [h1] at C hb ⊢
    clear hq h1
    go_enter Tryd.func99, Tryd.ntmps99
    go_wp2_with fail
    refine C.out.mono ?_
    rintro e w2 ⟨rfl, hb2⟩
    have HB := Lib.hid (hb.out.trans (hb2.mono hb.out.size))
    clear hb2
    go_wp2
    go_ret
    exact ⟨by rw [HS.out]; rfl, HB.out⟩
  · have e1 : (x.parent == y.parent) = false := by simpa using h1
    have HS : Hid (decide (shS x = shS y) = false) := Lib.hid (decide_eq_false fun e => h1 (Prod.mk.inj e).1)
    clear h1 C
    go_enter Tryd.func99, Tryd.ntmps99
    go_wp2
    go_ret
    exact ⟨by rw [HS.out]; rfl, hb.out⟩
set_option maxRecDepth 100000 in
set_option maxHeartbeats 4000000 in
theorem eqScopes_any (xs ys : List Sc) (ox oy : Option Addr) (cx cy : Nat) (w : World) (hx : xs.length ≤ 1000000) (gx : ∀ s ∈ xs, s.items.length ≤ 1000000) (ax : HoldsScopes w ox xs) (ay : HoldsScopes w oy ys) :
    Calls Tryd.prog 98 #[.slice ox xs.length cx, .slice oy ys.length cy, .func (.func 99) #[] #[]] w fun e w' => e = .returned (.bool (decide (xs.map shS = ys.map shS))) ∧ Below w.heap.size w w' := by
  have AX := Lib.hid ax
  have AY := Lib.hid ay
  clear ax ay
  by_cases hl : xs.length = ys.length
  · have l1 : ((xs.length : Int) != (ys.length : Int)) = false := by simp [hl]
    have l2 : ((xs.length : Int) == (ys.length : Int)) = true := by simp [hl]
    have HL := Lib.hid hl
    clear hl
    obtain ⟨q, hq⟩ : ∃ q, decide (xs.map shS = ys.map shS) = q := ⟨_, rfl⟩
    rw [hq]
    have HQ := Lib.hid hq
    clear hq
    go_enter Tryd.func98, Tryd.ntmps98
    go_wp2
    go_loopw [17] (fun i wr => ∃ k : Nat, i = .int .i64 k ∧ k ≤ xs.length ∧ Hid (∀ m x y, m < k → xs[m]? = some x → ys[m]? = some y → shS x = shS y) ∧ Hid (Below w.heap.size w wr)) (fun i _ => xs.length - (intOf i).toNat)
    case atStart => exact ⟨0, rfl, Nat.zero_le _, Lib.hid (fun m x y hm => absurd hm (by omega)), Lib.hid (Below.refl _ _)⟩
    case round =>
      obtain ⟨k, rfl, hk, HR, HW⟩ := hrel
      by_cases hlt : k < xs.length
      · have hlt2 : k < ys.length := by have := HL.out; omega
        obtain ⟨x, hp⟩ : ∃ x, xs[k]? = some x := ⟨_, List.getElem?_eq_getElem hlt⟩
        obtain ⟨y, hp2⟩ : ∃ y, ys[k]? = some y := ⟨_, List.getElem?_eq_getElem hlt2⟩
        obtain ⟨b1, f1, rfl, hb1, o1, c1, x0, x1, x2⟩ := (AX.out.below HW.out (Nat.le_refl _)).got hp
        obtain ⟨b2, f2, rfl, hb2, o2, c2, y0, y1, y2⟩ := (AY.out.below HW.out (Nat.le_refl _)).got hp2
        have HNX : Hid (shS x = shS y → ∀ m u v, m < k + 1 → xs[m]? = some u → ys[m]? = some v → shS u = shS v) := Lib.hid (by
          intro h m u v hm hu hv
          by_cases he : m = k
          · subst he
            rw [hp] at hu
            rw [hp2] at hv
            rw [← Option.some.inj hu, ← Option.some.inj hv, h]
          · exact HR.out m u v (by omega) hu hv)
        have HBAD : Hid (shS x ≠ shS y → q = false) := Lib.hid (by
          intro h
          rw [← HQ.out]
          exact decide_eq_false fun e => h (map_get e hp hp2))
        have HB1 := Lib.hid ((HW.out.alloc HW.out.size (.cells #[.int .i64 x.parent, .slice o1 x.items.length c1] 118)).alloc (by simp; exact Nat.le_succ_of_le HW.out.size) (.cells #[.int .i64 y.parent, .slice o2 y.items.length c2] 118))
        have C := Lib.hid (scopeSame_any x y o1 o2 c1 c2 _ (gx x (List.mem_of_getElem? hp)) (x2.below ((Below.refl wr.heap.size wr).alloc (Nat.le_refl _) (.cells #[.int .i64 x.parent, .slice o1 x.items.length c1] 118) |>.alloc (by simp) (.cells #[.int .i64 y.parent, .slice o2 y.items.length c2] 118)) (Nat.le_refl _)) (y2.below ((Below.refl wr.heap.size wr).alloc (Nat.le_refl _) (.cells #[.int .i64 x.parent, .slice o1 x.items.length c1] 118) |>.alloc (by simp) (.cells #[.int .i64 y.parent, .slice o2 y.items.length c2] 118)) (Nat.le_refl _)))
        clear hp hp2 x2 y2
        obtain ⟨q1, hq1⟩ : ∃ q1, decide (shS x = shS y) = q1 := ⟨_, rfl⟩
        rw [hq1] at C
        have HQ1 := Lib.hid hq1
        clear hq1
        go_wp2_with fail
        refine C.out.mono ?_
        rintro e w2 ⟨rfl, hb2⟩
        have HW2 := Lib.hid (HB1.out.trans (hb2.mono HB1.out.size))
        clear hb2
        cases q1
        · have HF := Lib.hid (HBAD.out (of_decide_eq_false HQ1.out))
          go_wp2
          go_ret
          exact ⟨by rw [HF.out]; rfl, HW2.out⟩
        · have HG := Lib.hid (HNX.out (of_decide_eq_true HQ1.out))
          go_wp2
          go_roundw
          case rel => exact ⟨k + 1, by go_num, by omega, HG, HW2⟩
          case measure => simp only [intOf]; omega
      · obtain rfl : k = xs.length := by omega
        have HS : Hid (q = true) := Lib.hid (by
          rw [← HQ.out]
          exact decide_eq_true (map_all HL.out fun m u v hu hv => HR.out m u v (List.getElem?_eq_some_iff.1 hu).1 hu hv))
        go_wp2
        go_ret
        exact ⟨by rw [HS.out]; rfl, HW.out⟩
  · have l1 : ((xs.length : Int) != (ys.length : Int)) = true := by simp; omega
    have l2 : ((xs.length : Int) == (ys.length : Int)) = false := by simp; omega
    have HF : Hid (decide (xs.map shS = ys.map shS) = false) := Lib.hid (decide_eq_false fun e => hl (by have := congrArg List.length e; simpa using this))
    clear hl
    go_enter Tryd.func98, Tryd.ntmps98
    go_wp2
    go_ret
    exact ⟨by rw [HF.out]; rfl, Below.refl _ _⟩
/-- Two graphs of one shape. -/
def SameSh (ss tt : List Sc) : Prop := Valid ss ∧ Valid tt ∧ ss.map shS = tt.map shS
set_option maxRecDepth 100000 in
set_option maxHeartbeats 8000000 in
theorem implSameShape_any (ss tt : List Sc) (hF : Fair ss) (hG : Fair tt) (oa ob : Option Addr) (ca cb : Nat) (w : World) (hc : HoldsScopes w oa ss) (hd : HoldsScopes w ob tt) (hE : TreeErrs w) :
    Calls Tryd.prog 52 #[.agg #[.slice oa ss.length ca], .agg #[.slice ob tt.length cb]] w fun e w' => ∃ b : Bool, e = .returned (.bool b) ∧ (b = true ↔ SameSh ss tt) ∧ Below w.heap.size w w' := by
  have hb0 := ((Below.refl w.heap.size w).alloc (Nat.le_refl _) (.cells #[.slice oa ss.length ca] 25)).alloc (by simp) (.cells #[.slice ob tt.length cb] 25)
  have R1 := Lib.hid ((Row.new w [.slice oa ss.length ca] 25).alloc (.cells #[.slice ob tt.length cb] 25))
  have R2 := Row.new (w.alloc (.cells #[.slice oa ss.length ca] 25)) [.slice ob tt.length cb] 25
  rw [World.size_alloc] at R2
  have R2 := Lib.hid R2
  have C := Lib.hid (implValid_any ss hF oa ca _ (hc.below hb0 (Nat.le_refl _)) (hE.below hb0 hE.size))
  have HB := Lib.hid hb0
  have HF := Lib.hid hF
  have HG := Lib.hid hG
  have HC := Lib.hid hc
  have HD := Lib.hid hd
  have HE := Lib.hid hE
  have g1 := R1.out.cell (i := 0) (v := .slice oa ss.length ca) (by rfl)
  have g2 := R2.out.cell (i := 0) (v := .slice ob tt.length cb) (by rfl)
  clear hF hG hc hd hb0
  go_enter Tryd.func52, Tryd.ntmps52
  go_wp2_with fail
  refine C.out.mono ?_
  rintro e w1 ⟨b, rfl, hv, hb1⟩
  have HV := Lib.hid hv
  have HB1 := Lib.hid (HB.out.trans (hb1.mono HB.out.size))
  have R1a := Lib.hid (R1.out.below hb1 R1.out.lt)
  have R2a := Lib.hid (R2.out.below hb1 R2.out.lt)
  have g1 := R1a.out.cell (i := 0) (v := .slice oa ss.length ca) (by rfl)
  have g2 := R2a.out.cell (i := 0) (v := .slice ob tt.length cb) (by rfl)
  clear hv hb1
  cases b
  · have HN : Hid (¬ SameSh ss tt) := Lib.hid (fun h => by have := HV.out.2 h.1; cases this)
    go_wp2
    go_ret
    exact ⟨false, rfl, ⟨fun h => (by cases h), fun h => absurd h HN.out⟩, HB1.out⟩
  · have HVV := Lib.hid (HV.out.1 rfl)
    have C2 := Lib.hid (implValid_any tt HG.out ob cb w1 (HD.out.below HB1.out (Nat.le_refl _)) (HE.out.below HB1.out HE.out.size))
    go_wp2_with fail
    refine C2.out.mono ?_
    rintro e w2 ⟨b, rfl, hv, hb2⟩
    have HV2 := Lib.hid hv
    have HB2 := Lib.hid (HB1.out.trans (hb2.mono HB1.out.size))
    have R1b := Lib.hid (R1a.out.below hb2 R1a.out.lt)
    have R2b := Lib.hid (R2a.out.below hb2 R2a.out.lt)
    have g1 := R1b.out.cell (i := 0) (v := .slice oa ss.length ca) (by rfl)
    have g2 := R2b.out.cell (i := 0) (v := .slice ob tt.length cb) (by rfl)
    clear hv hb2
    cases b
    · have HN : Hid (¬ SameSh ss tt) := Lib.hid (fun h => by have := HV2.out.2 h.2.1; cases this)
      go_wp2
      go_ret
      exact ⟨false, rfl, ⟨fun h => (by cases h), fun h => absurd h HN.out⟩, HB2.out⟩
    · have HVW := Lib.hid (HV2.out.1 rfl)
      have hsa : ∀ s ∈ ss, s.items.length ≤ 1000000 := fun s h => by have := HVV.out.five s h; omega
      have C3 := Lib.hid (eqScopes_any ss tt oa ob ca cb w2 (by have := HVV.out.count.2; omega) hsa (HC.out.below HB2.out (Nat.le_refl _)) (HD.out.below HB2.out (Nat.le_refl _)))
      clear hsa
      go_wp2_with fail
      refine C3.out.mono ?_
      rintro e w3 ⟨rfl, hb3⟩
      have HB3 := Lib.hid (HB2.out.trans (hb3.mono HB2.out.size))
      clear hb3
      obtain ⟨q, hq⟩ : ∃ q, decide (ss.map shS = tt.map shS) = q := ⟨_, rfl⟩
      have HQ := Lib.hid hq
      rw [hq]
      clear hq
      go_wp2
      go_ret
      refine ⟨q, rfl, ?_, HB3.out⟩
      rw [← HQ.out]
      exact ⟨fun h => ⟨HVV.out, HVW.out, of_decide_eq_true h⟩, fun h => decide_eq_true h.2.2⟩
end Go.Proofs.YtimcobenmgbciaaDoor
