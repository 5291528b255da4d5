/-
  The walks of impl's slices.Equal at places and of (*comparison).same: whether an item means the same before and after, where it is told where each declaration stands. Conditions: two resolutions lie in memory; the function that is asked answers as is told. The walk of impl's (*comparison).same: whether an item means the same before and after, where it is told where each declaration stands. Conditions: two resolutions lie in memory; the function that is asked answers as is told. A range over an iterator that itself ranges over another: the contract of such an iterator ('SeqOwn'), and the statement's law over it. Plain facts about the model's walk. The contract of impl's iterator over what changes between two graphs: the places of the items that are there in the second one and mean something else. Conditions: a comparison lies in memory; whatever stands in the second graph is an item there. The walks of impl's slices.AppendSeq and slices.Collect over what changes, and of changedBetween. Conditions: both graphs lie in memory; the package-level errors hold errors; the function that is asked answers as is told. The walk of the given l6Same: whether an item means the same when another one is removed. Conditions: the graph is valid; both graphs lie in memory. The walk of the given l6Changed. Conditions: the graph is valid, lies in memory, and has the item. The walks of ChangedBy and CanRemove, given and impl. Conditions: the argument's memory holds the graph; the package-level errors hold errors.
-/
import Derived.Test.YtadpgoiiopfnnaaDoorJLookB
import Derived.Test.YtadpgoiiopfnnaaDoorRegionRound
import Derived.Test.YtadpgoiiopfnnaaDoorWSpecRemove
import Derived.Deep.RegionHeld3
import Derived.RangeFuncNested
import Derived.RangeFuncBound
import Derived.RangeFuncLeaves
import Derived.Test.YtadpgoiiopfnnaaDoorWSpecRemove2
import Derived.Test.YtadpgoiiopfnnaaDoorWRemItem
namespace Go.Proofs.YtadpgoiiopfnnaaDoor
open Go Go.RowKit Go.Maps
set_option maxRecDepth 100000 in
set_option maxHeartbeats 4000000 in
theorem equalPl_any (xs ys : List (Int × Int)) (ox oy : Option Addr) (cx cy : Nat) (w : World) (hx : xs.length ≤ 1000000) (hy : ys.length ≤ 1000000) (ax : ArgPlaces w ox xs) (ay : ArgPlaces w oy ys) :
    Calls Tryd.prog 164 #[.slice ox xs.length cx, .slice oy ys.length cy] w fun e w' => e = .returned (.bool (decide (xs = ys))) ∧ Below w.heap.size w w' := by
  have AX := Lib.hid ax
  have AY := Lib.hid ay
  clear ax ay
  by_cases hl : xs.length = ys.length
  · have l1 : ((xs.length : Int) != (ys.length : Int)) = false := by simp [hl]
    have l2 : ((xs.length : Int) == (ys.length : Int)) = true := by simp [hl]
    have HL := Lib.hid hl
    clear hl
    obtain ⟨q, hq⟩ : ∃ q, decide (xs = ys) = q := ⟨_, rfl⟩
    rw [hq]
    have HQ := Lib.hid hq
    clear hq
    go_enter Tryd.func164, Tryd.ntmps164
    go_wp2
    go_loopw [13] (fun i wr => ∃ k : Nat, i = .int .i64 k ∧ k ≤ xs.length ∧ Hid (∀ m, m < k → xs[m]? = ys[m]?) ∧ Hid (Below w.heap.size w wr)) (fun i _ => xs.length - (intOf i).toNat)
    case atStart => exact ⟨0, rfl, Nat.zero_le _, Lib.hid (fun m hm => absurd hm (by omega)), Lib.hid (Below.refl _ _)⟩
    case round =>
      obtain ⟨k, rfl, hk, HR, HW⟩ := hrel
      by_cases hlt : k < xs.length
      · have hlt2 : k < ys.length := by have := HL.out; omega
        obtain ⟨⟨a, b⟩, hp⟩ : ∃ p, xs[k]? = some p := ⟨_, List.getElem?_eq_getElem hlt⟩
        obtain ⟨⟨c, d⟩, hp2⟩ : ∃ p, ys[k]? = some p := ⟨_, List.getElem?_eq_getElem hlt2⟩
        obtain ⟨b1, f1, rfl, hb1, q1⟩ := (AX.out.below HW.out).at (by omega)
        obtain ⟨b2, f2, rfl, hb2, q2⟩ := (AY.out.below HW.out).at (by omega)
        obtain ⟨x0, x1⟩ := q1 k _ hp
        obtain ⟨y0, y1⟩ := q2 k _ hp2
        have x0' := cell_drew x0
        have x1' := cell_drew x1
        have y0' := cell_drew y0
        have y1' := cell_drew y1
        dsimp only at x0 x1 y0 y1 x0' x1' y0' y1'
        have HNX : Hid ((a, b) = (c, d) → ∀ m, m < k + 1 → xs[m]? = ys[m]?) := Lib.hid (by
          intro h m hm
          by_cases he : m = k
          · subst he
            rw [hp, hp2, h]
          · exact HR.out m (by omega))
        have HBAD : Hid ((a, b) ≠ (c, d) → q = false) := Lib.hid (by
          intro h
          rw [← HQ.out]
          refine decide_eq_false fun e => h ?_
          rw [e, hp2] at hp
          exact (Option.some.inj hp).symm)
        clear hp hp2 q1 q2 hb1 hb2
        by_cases h1 : a = c
        · subst h1
          by_cases h2 : b = d
          · subst h2
            have HG := Lib.hid (HNX.out rfl)
            go_wp2
            go_region
            all_goals go_wp2
            all_goals go_roundw
            all_goals first
              | (case rel => exact ⟨k + 1, by go_num, by omega, HG, Lib.hid HW.out.drew⟩)
              | (case measure => simp only [intOf]; omega)
          · have HF := Lib.hid (HBAD.out (fun e => h2 (Prod.mk.inj e).2))
            have e1 : (b == d) = false := by simpa using h2
            go_wp2
            go_region
            all_goals go_wp2
            all_goals go_ret
            all_goals exact ⟨by rw [HF.out]; rfl, HW.out.drew⟩
        · have HF := Lib.hid (HBAD.out (fun e => h1 (Prod.mk.inj e).1))
          have e1 : (a == c) = false := by simpa using h1
          go_wp2
          go_region
          all_goals go_wp2
          all_goals go_ret
          all_goals exact ⟨by rw [HF.out]; rfl, HW.out.drew⟩
      · obtain rfl : k = xs.length := by omega
        have HS : Hid (q = true) := Lib.hid (by
          rw [← HQ.out]
          refine decide_eq_true (List.ext_getElem? fun m => ?_)
          by_cases hm : m < xs.length
          · exact HR.out m hm
          · rw [List.getElem?_eq_none (by omega), List.getElem?_eq_none (by have := HL.out; omega)])
        go_wp2
        go_ret
        exact ⟨by rw [HS.out]; rfl, HW.out⟩
  · have l1 : ((xs.length : Int) != (ys.length : Int)) = true := by simp; omega
    have l2 : ((xs.length : Int) == (ys.length : Int)) = false := by simp; omega
    have HF : Hid (decide (xs = ys) = false) := Lib.hid (decide_eq_false fun e => hl (by rw [e]))
    clear hl
    go_enter Tryd.func164, Tryd.ntmps164
    go_wp2
    go_ret
    exact ⟨by rw [HF.out]; rfl, Below.refl _ _⟩
end Go.Proofs.YtadpgoiiopfnnaaDoor
namespace Go.Proofs.YtadpgoiiopfnnaaDoor
open Go Go.RowKit Go.Maps
/-- What a function tells of where a place stands. -/
def StTold (st : Int × Int → Option (Int × Int)) (d : Int × Int) (x y : Int) (ok : Bool) : Prop := (ok = true ∧ st d = some (x, y)) ∨ (ok = false ∧ st d = none)
/-- A function value that tells where places stand, in every world behind w. -/
def StandsOk (w : World) (u : Value) (st : Int × Int → Option (Int × Int)) : Prop := ∃ (f : Nat) (lb : Array Value), u = .func (.func f) #[] lb ∧ (∀ args W, (callFunc f args).run Tryd.prog W = .ok (.enter f args) W) ∧
  ∀ (i j : Nat) (W : World), i < 1000 → j < 1000 → Below w.heap.size w W → Calls Tryd.prog f (#[.agg #[.int .i64 (i : Int), .int .i64 (j : Int)]] ++ lb) W fun e W' => ∃ x y ok, e = .returned (.tuple #[.agg #[.int .i64 x, .int .i64 y], .bool ok]) ∧ StTold st ((i : Int), (j : Int)) x y ok ∧ Below W.heap.size W W'
theorem StandsOk.below {w w' : World} {u : Value} {st : Int × Int → Option (Int × Int)} (h : StandsOk w u st) (hb : Below w.heap.size w w') : StandsOk w' u st := by
  obtain ⟨f, lb, h1, h2, h3⟩ := h
  exact ⟨f, lb, h1, h2, fun i j W hi hj hW => h3 i j W hi hj (hb.trans (hW.mono hb.size))⟩
/-- A resolution of a graph lies in memory. -/
def ResIs (w : World) (R : Nat) (ss : List Sc) : Prop := ∃ (B T M1 M2 MR : Nat) (v : Value) (ds : List Nd) (l : List Ent), ResW w B R T M1 M2 MR v ds ss l
theorem ResIs.below {w w' : World} {R : Nat} {ss : List Sc} (h : ResIs w R ss) (hb : Below w.heap.size w w') : ResIs w' R ss := by
  obtain ⟨B, T, M1, M2, MR, v, ds, l, h⟩ := h
  exact ⟨B, T, M1, M2, MR, v, ds, l, h.below hb⟩
/-- A comparison lies in memory. -/
structure CompIs (w : World) (C R1 R2 : Nat) (u : Value) (ss tt : List Sc) (st : Int × Int → Option (Int × Int)) : Prop where
  row : Row w C 152 [.pointer (some ⟨R1, 0, none⟩), .pointer (some ⟨R2, 0, none⟩), u]
  res1 : ResIs w R1 ss
  res2 : ResIs w R2 tt
  stands : StandsOk w u st
theorem CompIs.below {w w' : World} {C R1 R2 : Nat} {u : Value} {ss tt : List Sc} {st : Int × Int → Option (Int × Int)} (h : CompIs w C R1 R2 u ss tt st) (hb : Below w.heap.size w w') : CompIs w' C R1 R2 u ss tt st :=
  ⟨h.row.below hb h.row.lt, h.res1.below hb, h.res2.below hb, h.stands.below hb⟩
/-- What stands of the first k of a list. -/
def stUp (st : Int × Int → Option (Int × Int)) (l : List (Int × Int)) (k : Nat) : List (Int × Int) := (l.take k).filterMap st
theorem stUp_length (st : Int × Int → Option (Int × Int)) (l : List (Int × Int)) (k : Nat) : (stUp st l k).length ≤ l.length := Nat.le_trans (List.length_filterMap_le _ _) (List.length_take_le' _ _)
theorem stUp_snoc {st : Int × Int → Option (Int × Int)} {l : List (Int × Int)} {k : Nat} {d p : Int × Int} (h : l[k]? = some d) (hs : st d = some p) : stUp st l (k + 1) = stUp st l k ++ [p] := by
  unfold stUp
  rw [List.take_add_one, h, List.filterMap_append]
  simp [hs]
theorem cell4 {w1 W : World} {p0 p1 p2 : Addr} {v0 v1 v2 : Value} (c0 : w1.cell? p0 = some v0) (c1 : w1.cell? p1 = some v1) (c2 : w1.cell? p2 = some v2) (hb : Below w1.heap.size w1 W) :
    W.cell? p0 = some v0 ∧ W.cell? p1 = some v1 ∧ W.cell? p2 = some v2 ∧ Below w1.heap.size w1 W := ⟨cell_grow hb c0, cell_grow hb c1, cell_grow hb c2, hb⟩
set_option maxRecDepth 100000 in
set_option maxHeartbeats 16000000 in
theorem same_any {ss tt : List Sc} (hv : Valid ss) (hv2 : Valid tt) {st : Int × Int → Option (Int × Int)} {w : World} {C R1 R2 : Nat} {u : Value} (hC : CompIs w C R1 R2 u ss tt st) {i j i2 j2 : Nat} {x x2 : It} (hq : (i, j, x) ∈ placed 0 ss) (hq2 : (i2, j2, x2) ∈ placed 0 tt) :
    Calls Tryd.prog 149 #[.pointer (some ⟨C, 0, none⟩), .agg #[.int .i64 (i : Int), .int .i64 (j : Int)], .agg #[.int .i64 (i2 : Int), .int .i64 (j2 : Int)]] w fun e w' => e = .returned (.bool (sameG tt st (meanIt ss (i, j, x)) ((i2 : Int), (j2 : Int)))) ∧ Below w.heap.size w w' := by
  have hb0 : Below w.heap.size w ((w.alloc (.cells #[.int .i64 (i : Int), .int .i64 (j : Int)] 34)).alloc (.cells #[.int .i64 (i2 : Int), .int .i64 (j2 : Int)] 34)).drew := (((Below.refl _ _).alloc (Nat.le_refl _) _).alloc (by simp) _).drew
  have HC := Lib.hid hC
  have HC0 := Lib.hid (hC.below hb0)
  have HB0 := Lib.hid hb0
  have RB := (Row.new w [.int .i64 (i : Int), .int .i64 (j : Int)] 34).alloc (.cells #[.int .i64 (i2 : Int), .int .i64 (j2 : Int)] 34)
  have RA := Row.new (w.alloc (.cells #[.int .i64 (i : Int), .int .i64 (j : Int)] 34)) [.int .i64 (i2 : Int), .int .i64 (j2 : Int)] 34
  rw [World.size_alloc] at RA
  have HRA := Lib.hid RA.drew
  have b0 := cell_drew (RB.cell (i := 0) (by rfl))
  have b1 := cell_drew (RB.cell (i := 1) (by rfl))
  have cc0 := HC0.out.row.cell (i := 0) (by rfl)
  obtain ⟨f, lb, rfl, hen, hst⟩ := hC.stands
  have HST := Lib.hid hst
  obtain ⟨Br, T, M1, M2, MR, v, ds, l, hR⟩ := HC0.out.res1
  have r1 := hR.box.cell (i := 1) (by rfl)
  obtain ⟨u1, -, hrun, hown⟩ := mean_at hv hR.mean hR.full hq
  obtain ⟨o1, c1, rfl, harg⟩ := argPlaces_of_owns hown
  have HA1 := Lib.hid harg
  have HP1 := Lib.hid (meanIt_isPlace hq)
  have HN1 := meanIt_length hv (i, j, x)
  have HV := Lib.hid (And.intro hv (And.intro hv2 hq2))
  obtain ⟨q, hsq⟩ : ∃ q, sameG tt st (meanIt ss (i, j, x)) ((i2 : Int), (j2 : Int)) = q := ⟨_, rfl⟩
  rw [hsq]
  have HSG : Hid (decide ((∀ d ∈ meanIt ss (i, j, x), (st d).isSome = true) ∧ (meanIt ss (i, j, x)).filterMap st = meanIt tt (i2, j2, x2)) = q) := Lib.hid (by rw [← hsq]; unfold sameG; rw [show meanAt tt ((i2 : Int), (j2 : Int)).1 ((i2 : Int), (j2 : Int)).2 = meanIt tt (i2, j2, x2) from meanAt_of hq2])
  have HSM := hv.small
  have HSMH := Lib.hid HSM
  clear hC hb0 RB RA hst hR hown harg hv hv2 hq hq2 hsq HSM
  generalize meanIt ss (i, j, x) = ml at *
  go_enter Tryd.func149, Tryd.ntmps149
  go_wp2
  go_region
  all_goals go_wp2
  generalize hW0 : ((w.alloc (.cells #[.int .i64 (i : Int), .int .i64 (j : Int)] 34)).alloc (.cells #[.int .i64 (i2 : Int), .int .i64 (j2 : Int)] 34)).drew = W0 at *
  go_loopw [7, 22] (fun v i wr => ∃ k : Nat, i = .int .i64 k ∧ k ≤ ml.length ∧ Hid (∀ m d, m < k → ml[m]? = some d → (st d).isSome = true) ∧ Hid (wr.ownsRow W0.heap.size 34 2 v (stUp st ml k).length (placeCells (stUp st ml k)) ∧ Below w.heap.size w wr ∧ Below W0.heap.size W0 wr)) (fun _ i _ => ml.length - (intOf i).toNat)
  case atStart => exact ⟨0, rfl, Nat.zero_le _, Lib.hid (fun m d hm => absurd hm (by omega)), Lib.hid ⟨World.ownsRow_nil _ _ _ _, HB0.out, Below.refl _ _⟩⟩
  case round =>
    obtain ⟨k, rfl, hk, HS, HW⟩ := hrel
    obtain ⟨ov, cv, rfl⟩ := ownsRow_slice HW.out.1
    by_cases hlt : k < ml.length
    · obtain ⟨d, hd⟩ : ∃ d, ml[k]? = some d := ⟨_, List.getElem?_eq_getElem hlt⟩
      obtain ⟨ci, cj, cs, cx, rfl, hcs, hcx⟩ := HP1.out d (List.mem_of_getElem? hd)
      have hci : ci < 1000 := by have h1 := (List.getElem?_eq_some_iff.1 hcs).1; have h2 := HSMH.out.len; omega
      have hcj : cj < 1000 := by have h1 := (List.getElem?_eq_some_iff.1 hcx).1; have h2 := HSMH.out.items cs (List.mem_of_getElem? hcs); omega
      obtain ⟨b2, f2, rfl, hb2, q2⟩ := (HA1.out.below HW.out.2.2).at (by omega)
      obtain ⟨x0, x1⟩ := q2 k _ hd
      dsimp only at x0 x1
      have hbq := (Below.refl wr.heap.size wr).alloc (Nat.le_refl _) (.cells #[.int .i64 (ci : Int), .int .i64 (cj : Int)] 34)
      have RQ := Row.new wr [.int .i64 (ci : Int), .int .i64 (cj : Int)] 34
      have k0 := RQ.cell (i := 0) (v := .int .i64 (ci : Int)) (by rfl)
      have k1 := RQ.cell (i := 1) (v := .int .i64 (cj : Int)) (by rfl)
      have XB := Lib.hid (HW.out.2.1.trans (hbq.mono HW.out.2.1.size))
      have XB0 := Lib.hid (HW.out.2.2.trans (hbq.mono HW.out.2.2.size))
      have XO := Lib.hid (ownsRow_below HW.out.1 hbq)
      have XS : Hid (wr.heap.size < (wr.alloc (.cells #[.int .i64 (ci : Int), .int .i64 (cj : Int)] 34)).heap.size) := Lib.hid (by simp)
      have cf := (HC.out.row.below XB.out HC.out.row.lt).cell (i := 2) (v := .func (.func f) #[] lb) (by rfl)
      have HD := Lib.hid hd
      have HIJ := Lib.hid (And.intro hci hcj)
      clear hbq RQ q2 hb2 hcs hcx hci hcj hd
      go_wp2
      generalize wr.alloc (.cells #[.int .i64 (ci : Int), .int .i64 (cj : Int)] 34) = wq at *
      go_cut [10, 11] (fun s10 s11 wx => ∃ (g : Nat) (x y : Int) (ok : Bool), s10 = .pointer (some ⟨g, 0, none⟩) ∧ s11 = .bool ok ∧ StTold st ((ci : Int), (cj : Int)) x y ok ∧ Row wx g 34 [.int .i64 x, .int .i64 y] ∧ wq.heap.size ≤ g ∧ Below wq.heap.size wq wx)
      case first =>
        go_region_held3 (fun w' => w'.cell? ⟨C, 2, none⟩ = some (.func (.func f) #[] lb) ∧ w'.cell? ⟨wr.heap.size, 0, none⟩ = some (.int .i64 (ci : Int)) ∧ w'.cell? ⟨wr.heap.size, 1, none⟩ = some (.int .i64 (cj : Int)) ∧ Below wq.heap.size wq w')
          (first
            | exact cell4 cf k0 k1 (Below.refl _ _)
            | exact cell4 cf k0 k1 ((Below.refl _ _).drew)
            | exact cell4 cf k0 k1 (((Below.refl _ _).drew).alloc (Nat.le_refl _) _)
            | exact cell4 cf k0 k1 (((Below.refl _ _).alloc (Nat.le_refl _) _).drew)
            | exact cell4 cf k0 k1 hBs
            | exact cell4 cf k0 k1 (hBs.alloc hBs.size _)
            | exact cell4 cf k0 k1 ((hBs.setCell (Nat.le_refl _) _).setCell (Nat.le_refl _) _)
            | exact cell4 cf k0 k1 ((hBs.setCell hBs.size _).setCell hBs.size _))
          (first
            | (go_at_fn f; refine (HST.out ci cj _ HIJ.out.1 HIJ.out.2 (XB.out.trans ((show Below wq.heap.size wq _ from (And.right (And.right (And.right (by assumption))))).mono XB.out.size))).mono ?_; rintro e ws ⟨x, y, ok, rfl, hst, hbs⟩; have hBs := Below.trans (show Below wq.heap.size wq _ from (And.right (And.right (And.right (by assumption))))) (hbs.mono (Below.size (And.right (And.right (And.right (by assumption)))))); (first | (have hz := Row.below (Row.new _ [.int .i64 0, .int .i64 0] 34) hbs (by simp); have z0 := hz.cell (i := 0) (by rfl); have z1 := hz.cell (i := 1) (by rfl); have zf0 := hz.frozen 0; have zf1 := hz.frozen 1) | (have hz := Row.below (Row.drew (Row.new _ [.int .i64 0, .int .i64 0] 34)) hbs (by simp); have z0 := hz.cell (i := 0) (by rfl); have z1 := hz.cell (i := 1) (by rfl); have zf0 := hz.frozen 0; have zf1 := hz.frozen 1) | skip)))
        all_goals go_wp2
        all_goals go_meet
        all_goals first
          | exact ⟨_, x, y, ok, rfl, rfl, hst, Row.new _ [.int .i64 x, .int .i64 y] 34, hBs.size, hBs.alloc hBs.size _⟩
          | exact ⟨_, x, y, ok, rfl, rfl, hst, (hz.set 0 _).set 1 _, Nat.le_refl _, (hBs.setCell (Nat.le_refl _) _).setCell (Nat.le_refl _) _⟩
      case rest =>
        obtain ⟨g, xx, yy, ok, rfl, rfl, hst, hrow, hg, hbc⟩ := hcut
        have YB := Lib.hid (XB.out.trans (hbc.mono XB.out.size))
        have YB0 := Lib.hid (XB0.out.trans (hbc.mono XB0.out.size))
        have YO := Lib.hid (ownsRow_below XO.out hbc)
        cases ok
        · have HF : Hid (q = false) := Lib.hid (by
            rw [← HSG.out]
            refine decide_eq_false fun h => ?_
            rcases hst with ⟨h1, _⟩ | ⟨_, h1⟩
            · cases h1
            · have h2 := h.1 _ (List.mem_of_getElem? HD.out)
              rw [h1] at h2
              cases h2)
          clear hst hrow hg hbc k0 k1 cf
          go_wp2
          go_ret
          exact ⟨by rw [HF.out]; rfl, YB.out⟩
        · have hss : st ((ci : Int), (cj : Int)) = some (xx, yy) := by
            rcases hst with ⟨_, h1⟩ | ⟨h1, _⟩
            · exact h1
            · cases h1
          have HSN : Hid (∀ m d, m < k + 1 → ml[m]? = some d → (st d).isSome = true) := Lib.hid (by
            intro m d hm hmd
            by_cases he : m = k
            · subst he
              rw [HD.out] at hmd
              obtain rfl := Option.some.inj hmd
              rw [hss]; rfl
            · exact HS.out m d (by omega) hmd)
          have HE : Hid (stUp st ml (k + 1) = stUp st ml k ++ [(xx, yy)]) := Lib.hid (stUp_snoc HD.out hss)
          have g0 := hrow.cell (i := 0) (v := .int .i64 xx) (by rfl)
          have g1 := hrow.cell (i := 1) (v := .int .i64 yy) (by rfl)
          have hpl := stUp_length st ml k
          obtain ⟨v', w', hrun', hown', hgrow, -⟩ := append_placeW YO.out xx yy (by omega) YB0.out.size 46
          have HP4 : Hid (w'.ownsRow W0.heap.size 34 2 v' (stUp st ml (k + 1)).length (placeCells (stUp st ml (k + 1))) ∧ Below w.heap.size w w' ∧ Below W0.heap.size W0 w') := Lib.hid
            ⟨by rw [HE.out, List.length_append, placeCells_snoc]; exact hown', YB.out.trans (below_append2 YO.out hgrow HB0.out.size YB.out.size), YB0.out.trans (below_append2 YO.out hgrow (Nat.le_refl W0.heap.size) YB0.out.size)⟩
          obtain ⟨ov', cv', rfl⟩ := ownsRow_slice hown'
          clear hst hrow hg hbc k0 k1 cf hss hown' hgrow
          go_wp2_with (at_builtin; refine wpList_append_run rfl _ _ 46 rfl hrun' ?_)
          go_roundw
          case rel => exact ⟨k + 1, by go_num, by omega, HSN, HP4⟩
          case measure => simp only [intOf]; omega
    · obtain rfl : k = ml.length := by omega
      have hRW := (HC0.out.below HW.out.2.2)
      obtain ⟨B3, T3, N1, N2, MS, v3, ds3, l3, hR3⟩ := hRW.res2.below ((Below.refl wr.heap.size wr).drew)
      obtain ⟨u3, hfix, hown3⟩ := mean_fix HV.out.2.1 hR3.mean hR3.full HV.out.2.2
      obtain ⟨o3, c3, rfl, harg3⟩ := argPlaces_of_owns hown3
      obtain ⟨o4, c4, he4, harg4⟩ := argPlaces_of_owns (ownsRow_below HW.out.1 ((Below.refl wr.heap.size wr).drew))
      simp only [Value.slice.injEq] at he4
      obtain ⟨rfl, -, rfl⟩ := he4
      have hfull : stUp st ml ml.length = ml.filterMap st := by unfold stUp; rw [List.take_length]
      have HQ2 : Hid (decide (stUp st ml ml.length = meanIt tt (i2, j2, x2)) = q) := Lib.hid (by
        rw [← HSG.out, hfull, decide_eq_decide]
        constructor
        · exact fun h => ⟨fun d hd => by
            obtain ⟨m, hm⟩ := List.mem_iff_getElem?.1 hd
            exact HS.out m d (List.getElem?_eq_some_iff.1 hm).1 hm, h⟩
        · exact fun h => h.2)
      have hn3 := meanIt_length HV.out.2.1 (i2, j2, x2)
      have hpl := stUp_length st ml ml.length
      have D := Lib.hid ((callsIn_wide (n := 5)).2 (equalPl_any (stUp st ml ml.length) (meanIt tt (i2, j2, x2)) ov o3 cv c3 wr.drew (by omega) (by omega) harg4 harg3))
      rw [HQ2.out] at D
      have m1 := cell_drew (hRW.row.cell (i := 1) (v := .pointer (some ⟨R2, 0, none⟩)) (by rfl))
      have m2 := hR3.box.cell (i := 1) (v := .map (some MS)) (by rfl)
      have a0 := cell_drew ((HRA.out.below HW.out.2.2 HRA.out.lt).cell (i := 0) (v := .int .i64 (i2 : Int)) (by rfl))
      have a1 := cell_drew ((HRA.out.below HW.out.2.2 HRA.out.lt).cell (i := 1) (v := .int .i64 (j2 : Int)) (by rfl))
      have HFX := Lib.hid hfix
      have HBW := Lib.hid HW.out.2.1
      have hms : MS < wr.heap.size := hR3.mean.lt
      clear hRW hR3 hfix hown3 harg3 harg4 hfull hpl hn3
      generalize meanIt tt (i2, j2, x2) = m3 at *
      go_wp2
      refine wp_region_kept (S := fun w' => w'.cell? ⟨C, 1, none⟩ = some (.pointer (some ⟨R2, 0, none⟩)) ∧ w'.cell? ⟨R2, 1, none⟩ = some (.map (some MS)) ∧ w'.cell? ⟨w.heap.size + 1, 0, none⟩ = some (.int .i64 (i2 : Int)) ∧ w'.cell? ⟨w.heap.size + 1, 1, none⟩ = some (.int .i64 (j2 : Int)) ∧ w'.heap[MS]? = wr.drew.heap[MS]?) 11 (by kernel_rfl) ?_
      have hS0 := And.intro m1 (And.intro m2 (And.intro a0 (And.intro a1 (rfl : wr.drew.heap[MS]? = wr.drew.heap[MS]?))))
      refine KeptAny.take (i := 0) (v := ?_) (by kernel_rfl) rfl rfl (by kernel_rfl) (by kernel_rfl) (by kernel_rfl) (fun _ _ _ h => h) (by rfl) (fun w' hw' => ?_) (fun _ => rfl) hS0 ?_
      rotate_left
      · (obtain ⟨g0, g1, g2, g3, g4⟩ := hw'; go_simp; try with_reducible rfl)
      refine KeptAny.take (i := 1) (v := ?_) (by kernel_rfl) rfl rfl (by kernel_rfl) (by kernel_rfl) (by kernel_rfl) (fun _ _ _ h => h) (by rfl) (fun w' hw' => ?_) (fun _ => rfl) hS0 ?_
      rotate_left
      · (obtain ⟨g0, g1, g2, g3, g4⟩ := hw'; go_simp; try with_reducible rfl)
      refine KeptAny.take (i := 2) (v := ?_) (by kernel_rfl) rfl rfl (by kernel_rfl) (by kernel_rfl) (by kernel_rfl) (fun _ _ _ h => h) (by rfl) (fun w' hw' => ?_) (fun _ => rfl) hS0 ?_
      rotate_left
      · (obtain ⟨g0, g1, g2, g3, g4⟩ := hw'; go_simp; try with_reducible rfl)
      refine KeptAny.take (i := 3) (v := ?_) (by kernel_rfl) rfl rfl (by kernel_rfl) (by kernel_rfl) (by kernel_rfl) (fun _ _ _ h => h) (by rfl) (fun w' hw' => ?_) (fun _ => rfl) hS0 ?_
      rotate_left
      · (obtain ⟨g0, g1, g2, g3, g4⟩ := hw'; go_simp; try with_reducible rfl)
      refine KeptAny.take (i := 4) (v := ?_) (by kernel_rfl) rfl rfl (by kernel_rfl) (by kernel_rfl) (by kernel_rfl) (fun _ _ _ h => h) (by rfl) (fun w' hw' => ?_) (fun _ => rfl) hS0 ?_
      rotate_left
      · (obtain ⟨g0, g1, g2, g3, g4⟩ := hw'; go_simp; try with_reducible rfl)
      refine KeptAny.take (i := 5) (v := ?_) (by kernel_rfl) rfl rfl (by kernel_rfl) (by kernel_rfl) (by kernel_rfl) (fun _ _ _ h => h) (by rfl) (fun w' hw' => ?_) (fun _ => rfl) hS0 ?_
      rotate_left
      · (obtain ⟨g0, g1, g2, g3, g4⟩ := hw'; go_simp; try with_reducible rfl)
      refine KeptAny.take (i := 6) (v := ?_) (by kernel_rfl) rfl rfl (by kernel_rfl) (by kernel_rfl) (by kernel_rfl) (fun _ _ _ h => h) (by rfl) (fun w' hw' => ?_) (fun _ => rfl) hS0 ?_
      rotate_left
      · (obtain ⟨g0, g1, g2, g3, g4⟩ := hw'; go_simp; try with_reducible rfl)
      refine KeptAny.take (i := 7) (v := ?_) (by kernel_rfl) rfl rfl (by kernel_rfl) (by kernel_rfl) (by kernel_rfl) (fun _ _ _ h => h) (by rfl) (fun w' hw' => ?_) (fun _ => rfl) hS0 ?_
      rotate_left
      · (obtain ⟨g0, g1, g2, g3, g4⟩ := hw'; go_simp; try with_reducible rfl)
      refine KeptAny.take (i := 8) (v := ?_) (by kernel_rfl) rfl rfl (by kernel_rfl) (by kernel_rfl) (by kernel_rfl) (fun _ _ _ h => h) (by rfl) (fun w' hw' => ?_) (fun _ => rfl) hS0 ?_
      rotate_left
      · (obtain ⟨g0, g1, g2, g3, g4⟩ := hw'; go_simp; try with_reducible rfl)
      refine KeptAny.take (i := 9) (v := ?_) (by kernel_rfl) rfl rfl (by kernel_rfl) (by kernel_rfl) (by kernel_rfl) (fun _ _ _ h => h) (by rfl) (fun w' hw' => ?_) (fun _ => rfl) hS0 ?_
      rotate_left
      · (obtain ⟨g0, g1, g2, g3, g4⟩ := hw'; have hl := HFX.out w' g4; go_simp; try with_reducible rfl)
      refine KeptAny.one (i := 10) (by kernel_rfl) rfl (by rfl) (fun K hK => ?_)
      go_simp
      refine ⟨trivial, ?_⟩
      refine D.out.mono ?_
      rintro e w5 ⟨rfl, hb5⟩
      have hS5 := And.intro (cell_grow hb5 hS0.1) (And.intro (cell_grow hb5 hS0.2.1) (And.intro (cell_grow hb5 hS0.2.2.1) (And.intro (cell_grow hb5 hS0.2.2.2.1) (hb5.block MS hms))))
      have HB5 := Lib.hid (HBW.out.drew.trans (hb5.mono HBW.out.size))
      refine hK.out _ _ hS5 (fun _ => ?_)
      clear hK hb5 hS0
      refine KeptAny.one (i := 11) (by kernel_rfl) rfl (by rfl) (fun K hK => ?_)
      go_simp
      refine hK.out _ _ hS5 (fun _ => ?_)
      clear hK hS5
      refine KeptAny.done (by kernel_rfl) ?_ _
      go_wp2
      go_ret
      exact ⟨rfl, HB5.out⟩
end Go.Proofs.YtadpgoiiopfnnaaDoor
namespace Go.Proofs.YtadpgoiiopfnnaaDoor
open Go Go.RowKit
theorem roundIn_deep {F : Fence} (hd : F.depth = none) {m m' : Nat} {P : Program} {l : Nat} {f : FuncId} {tmps : Array Value} {assign body : Code} {w : World} {R : Ending → World → Prop} (h : RoundIn F m P l f tmps assign body w R) : RoundIn F m' P l f tmps assign body w R :=
  ⟨h.1, fun c cs _ => h.2 c cs (fun d h => by rw [hd] at h; cases h)⟩
/-- What an iterator may ask of its rounds and what it does: it may lay blocks, and turn what holds no cells and was laid since its call began. -/
def SeqOwn {α : Type} (n : Nat) (P : Program) (g : Nat) (lb : Array Value) (encs : α → Array Value) (Kp : Nat → World → World → Prop) (S Sp : List α → Prop) (N : Nat) (w0 : World) : Prop :=
  ∀ (l : Nat) (J Jx : List α → World → Prop) (W : World), l < W.heap.size → Below w0.heap.size w0 W → OwnFrom W.heap.size J → OwnFrom W.heap.size Jx →
    (∀ m pre x W1, J pre W1 → pre.length < N → YieldAt Fence.wide m P l (encs x) W1 fun e W' => KeepsFrom W.heap.size W1 W' ∧
      ((e = .returned (.bool true) ∧ J (pre ++ [x]) W' ∧ Kp W.heap.size W1 W') ∨ (e = .returned (.bool false) ∧ Jx (pre ++ [x]) W'))) →
    J [] W →
    CallsIn Fence.wide n P g (#[.func (.yield l) #[] #[]] ++ lb) W fun e W' => (∃ v, e = .returned v) ∧ ((∃ xs, S xs ∧ J xs W') ∨ (∃ pre, Sp pre ∧ Jx pre W'))
variable {P : Program} {n : Nat}
theorem wpIn_rangeFunc_o {α : Type} {g : Operand} {ps : Array Tmp} {assign body : Code} {Q : Exit → Act → World → Prop} {a : Act} {w : World}
    {gf : Nat} {lb : Array Value} (hg : a.eval g = .func (.func gf) #[] lb) (eg : ∀ args w, (callFunc gf args).run P w = .ok (.enter gf args) w)
    {encs : α → Array Value} {Kp : Nat → World → World → Prop} {S Sp : List α → Prop} {N : Nat} {w0 : World} (hseq : SeqOwn (n - 1) P gf lb encs Kp S Sp N w0)
    (hKt : ∀ {A B C : World}, Kp (w.heap.size + 2) A B → Kp (w.heap.size + 2) B C → Kp (w.heap.size + 2) A C) (hKb : ∀ (W : World) (l : Nat) (o o' : Obj), w.heap.size ≤ l → W.heap[l]? = some o → o.isCells = false → o.isWalk = false → Kp (w.heap.size + 2) W (W.putObj l o'))
    (hb0 : Below w0.heap.size w0 w) (hps : ∀ x, (encs x).size = ps.size)
    (I : List α → World → Prop) (Ix : Code → List α → World → Prop) (hI : OwnFrom w.heap.size I) (hIx : ∀ c, OwnFrom w.heap.size (Ix c)) (h0 : I [] w) (Ax : α → Act → World → Prop) (hAx : ∀ x a', OwnFrom w.heap.size (fun (_ : Unit) W => Ax x a' W))
    (hassign : ∀ (l : Nat) (pre : List α) (x : α) (W : World) (K : Act → World → Prop), I pre W → (∀ a' W', KeepsFrom w.heap.size W W' → Kp (w.heap.size + 2) W W' → I pre W' → Ax x a' W' → K a' W') →
      assign.wpIn (Fence.wide.inRound l) (n - 1 - 1) P (Exit.then K (fun _ _ _ => False)) { tmps := (ps.zip (encs x)).foldl (fun t (p, v) => t.setIfInBounds p v) a.tmps, defers := [] } W)
    (hbody : ∀ (l : Nat) (pre : List α) (x : α) (a' : Act) (W : World), w.heap.size ≤ l → (∃ r, W.heap[l]? = some (.loop r)) → I pre W → Ax x a' W → pre.length < N → body.wpIn (Fence.wide.inRound l) (n - 1 - 1) P (ownPostG w.heap.size (Kp (w.heap.size + 2)) I Ix (pre ++ [x]) W) a' W)
    (hdone : ∀ (D : Nat) (xs : List α) (W : World), w.heap.size ≤ D → S xs → I xs W → W.heap[D]? = some (.deferred (some [])) → Q .normal { a with defers := { target := .collected D, args := #[] } :: a.defers } W)
    (hstop : ∀ (D : Nat) (c : Code) (pre : List α) (W : World), w.heap.size ≤ D → Sp pre → Ix c pre W → W.heap[D]? = some (.deferred (some [])) → c.wpIn Fence.wide n P Q { a with defers := { target := .collected D, args := #[] } :: a.defers } W) :
    (Code.rangeFunc g ps assign body).wpIn Fence.wide n P Q a w := by
  refine wpIn_rangeFunc fun fn hfn => ?_
  obtain ⟨B, hB⟩ : ∃ B, B = w.heap.size := ⟨_, rfl⟩
  obtain ⟨rc, hrc⟩ : ∃ rc : LoopState → Option Code → Loop, rc = fun st pe => { state := st, pending := pe, fn, tmps := a.tmps, params := ps, assign, body, defers := B } := ⟨_, rfl⟩
  obtain ⟨V, hV⟩ : ∃ V, V = (w.alloc (.deferred (some []))).alloc (.loop (rc .ready none)) := ⟨_, rfl⟩
  have hVs : V.heap.size = B + 2 := by rw [hV, hB]; simp
  have hVl : V.heap[B + 1]? = some (.loop (rc .ready none)) := by
    have h := World.alloc_heap_new (w.alloc (.deferred (some []))) (.loop (rc .ready none))
    rw [World.size_alloc, ← hB, ← hV] at h
    exact h
  have hVd : V.heap[B]? = some (.deferred (some [])) := by
    have h := World.alloc_heap_new w (.deferred (some []))
    rw [hV, hB]
    exact (Below.heap_alloc _ _ _ (by simp)).trans h
  have hVb : Below w.heap.size w V := by rw [hV]; exact ((Below.refl _ _).alloc (Nat.le_refl _) _).alloc (by simp) _
  have hVI : I [] V := by rw [hV]; exact hI.alloc _ (hI.alloc _ h0)
  rw [← hB] at hI hIx hAx hassign hbody hdone hstop hKb
  have hKt' : ∀ {A C E : World}, Kp (B + 2) A C → Kp (B + 2) C E → Kp (B + 2) A E := by rw [hB]; exact hKt
  refine ⟨B + 1, [{ target := .collected B, args := #[] }], V, { target := .fn (.func gf) lb, args := #[.func (.yield (B + 1)) #[] #[]] }, V, gf, #[.func (.yield (B + 1)) #[] #[]] ++ lb, V, ?_, ?_, fun _ _ => trivial, ?_, fun h => (by cases h), ?_⟩
  · rw [hV, hrc, hB]; exact run_enterLoop_outer _ _ _ _ _
  · simp only [resolve, hg]
    simp [go_sem]
  · simp [invoke, go_sem, eg]
  · refine (hseq (B + 1)
      (fun pre W => I pre W ∧ (W.heap[B + 1]? = some (.loop (rc .ready none)) ∧ W.heap[B]? = some (.deferred (some []))))
      (fun pre W => ∃ c, Ix c pre W ∧ (W.heap[B + 1]? = some (.loop (rc .done (some c))) ∧ W.heap[B]? = some (.deferred (some []))))
      V (by omega) (hb0.trans (hVb.mono hb0.size)) ?_ ?_ ?_ ⟨hVI, hVl, hVd⟩).mono ?_
    · rintro s A C row ⟨h1, h2, h3⟩ hg' hr
      have hne : ∀ k, k < B + 2 → some k ≠ row := fun k hk e => by have := (hr k e.symm).1; omega
      exact ⟨hI s A C row h1 hg' (fun r e => ⟨by have := (hr r e).1; omega, (hr r e).2⟩), (hg'.block _ (Array.getElem?_eq_some_iff.1 h2).1 (hne _ (by omega))).trans h2, (hg'.block _ (Array.getElem?_eq_some_iff.1 h3).1 (hne _ (by omega))).trans h3⟩
    · rintro s A C row ⟨c, h1, h2, h3⟩ hg' hr
      have hne : ∀ k, k < B + 2 → some k ≠ row := fun k hk e => by have := (hr k e.symm).1; omega
      exact ⟨c, hIx c s A C row h1 hg' (fun r e => ⟨by have := (hr r e).1; omega, (hr r e).2⟩), (hg'.block _ (Array.getElem?_eq_some_iff.1 h2).1 (hne _ (by omega))).trans h2, (hg'.block _ (Array.getElem?_eq_some_iff.1 h3).1 (hne _ (by omega))).trans h3⟩
    · rintro m pre x W ⟨hi, hl, hd⟩ hlen
      have hy := run_yield (P := P) (args := encs x) hl (by rw [hrc]; exact hps x)
      rw [hrc] at hy
      refine ⟨fn, _, assign, body, hy, roundIn_deep rfl (roundIn_of_wpIn (n := n - 1 - 1) hfn (hassign (B + 1) pre x W _ hi fun a' Wa hka hpa hia hxa => ?_))⟩
      have hla := hka.same _ _ (by omega) hl rfl
      have hda := hka.same _ _ (Nat.le_refl _) hd rfl
      have hlt := (Array.getElem?_eq_some_iff.1 hla).1
      refine ⟨_, run_beginRound hla (by rw [hrc]), ?_⟩
      have hl2 : (Wa.putObj (B + 1) (.loop { rc .ready none with state := .busy })).heap[B + 1]? = some (.loop { rc .ready none with state := .busy }) := World.putObj_heap_same hlt
      have hd2 : (Wa.putObj (B + 1) (.loop { rc .ready none with state := .busy })).heap[B]? = some (.deferred (some [])) := (World.putObj_heap_other (by omega)).trans hda
      have hp2 : Kp (B + 2) Wa (Wa.putObj (B + 1) (.loop { rc .ready none with state := .busy })) := hKb _ _ _ _ (by omega) hla rfl rfl
      refine wpIn_mono (hbody (B + 1) pre x a' _ (by omega) ⟨_, hl2⟩ (hI.putObj _ hia (by omega) hla rfl) ((hAx x a').putObj (s := ()) _ hxa (by omega) hla rfl) hlen) ?_
      have put : ∀ (W' : World) (o : Obj), KeepsFrom V.heap.size W' (W'.putObj (B + 1) o) := fun W' o => ⟨by simp, fun k o' hk h _ => (World.putObj_heap_other (by omega)).trans h⟩
      have keep : ∀ (W3 : World) (o : Obj), KeepsFrom B (Wa.putObj (B + 1) (.loop { rc .ready none with state := .busy })) W3 → KeepsFrom V.heap.size W (W3.putObj (B + 1) o) := fun W3 o h3 => by
        have h1 := put Wa (.loop { rc .ready none with state := .busy })
        have h2 := put W3 o
        exact ⟨Nat.le_trans hka.size (Nat.le_trans h1.size (Nat.le_trans h3.size h2.size)), fun k o' hk ho hc => h2.same k o' hk (h3.same k o' (by omega) (h1.same k o' hk (hka.same k o' (by omega) ho hc) hc) hc) hc⟩
      have fin : ∀ (jump : Option Code) (W3 : World), KeepsFrom B (Wa.putObj (B + 1) (.loop { rc .ready none with state := .busy })) W3 →
          (Instr.endRound (B + 1) jump).run P W3 = .ok (.bool jump.isNone) (W3.putObj (B + 1) (.loop (rc (if jump.isNone then .ready else .done) jump))) ∧
          W3.heap[B + 1]? = some (.loop { rc .ready none with state := .busy }) ∧
          (W3.putObj (B + 1) (.loop (rc (if jump.isNone then .ready else .done) jump))).heap[B + 1]? = some (.loop (rc (if jump.isNone then .ready else .done) jump)) ∧
          (W3.putObj (B + 1) (.loop (rc (if jump.isNone then .ready else .done) jump))).heap[B]? = some (.deferred (some [])) := fun jump W3 h3 => by
        have hl3 := h3.same _ _ (by omega) hl2 rfl
        have hr := run_endRound (P := P) jump hl3
        rw [hrc] at hr ⊢
        exact ⟨hr, by rw [hrc] at hl3; exact hl3, World.putObj_heap_same (Array.getElem?_eq_some_iff.1 hl3).1, (World.putObj_heap_other (by omega)).trans (h3.same _ _ (Nat.le_refl _) hd2 rfl)⟩
      rintro e a3 W3 hp
      cases e with
      | normal =>
        obtain ⟨hk3, hkp3, hi3⟩ := hp
        obtain ⟨hr, hl3, hl4, hd4⟩ := fin none W3 hk3
        exact ⟨_, _, hr, keep W3 _ hk3, .inl ⟨rfl, ⟨hI.putObj _ hi3 (by omega) hl3 rfl, hl4, hd4⟩, by rw [hVs]; exact hKt' hpa (hKt' (hKt' hp2 hkp3) (hKb _ _ _ _ (by omega) hl3 rfl rfl))⟩⟩
      | ret =>
        obtain ⟨hk3, hi3⟩ := hp
        obtain ⟨hr, hl3, hl4, hd4⟩ := fin (some .ret) W3 hk3
        exact ⟨_, _, hr, keep W3 _ hk3, .inr ⟨rfl, .ret, (hIx _).putObj _ hi3 (by omega) hl3 rfl, hl4, hd4⟩⟩
      | exit id =>
        obtain ⟨hk3, hi3⟩ := hp
        obtain ⟨hr, hl3, hl4, hd4⟩ := fin (some (.exit id)) W3 hk3
        exact ⟨_, _, hr, keep W3 _ hk3, .inr ⟨rfl, .exit id, (hIx _).putObj _ hi3 (by omega) hl3 rfl, hl4, hd4⟩⟩
      | goto t =>
        obtain ⟨hk3, hi3⟩ := hp
        obtain ⟨hr, hl3, hl4, hd4⟩ := fin (some (.goto t)) W3 hk3
        exact ⟨_, _, hr, keep W3 _ hk3, .inr ⟨rfl, .goto t, (hIx _).putObj _ hi3 (by omega) hl3 rfl, hl4, hd4⟩⟩
      | panic ch => exact hp.elim
      | outgrown => exact hp.elim
    · rintro e W2 ⟨⟨v, rfl⟩, (⟨xs, hS, hi, hl, hd⟩ | ⟨pre, hSp, c, hi, hl, hd⟩)⟩
      · exact ⟨none, _, by have h := run_endLoop (P := P) hl (by rw [hrc]; simp); rw [hrc] at h; exact h, hdone B xs _ (Nat.le_refl _) hS (hI.putObj _ hi (by omega) hl rfl) ((World.putObj_heap_other (by omega)).trans hd)⟩
      · exact ⟨some c, _, by have h := run_endLoop (P := P) hl (by rw [hrc]; simp); rw [hrc] at h; exact h, hstop B c pre _ (Nat.le_refl _) hSp ((hIx c).putObj _ hi (by omega) hl rfl) ((World.putObj_heap_other (by omega)).trans hd)⟩
end Go.Proofs.YtadpgoiiopfnnaaDoor
namespace Go.Proofs.YtadpgoiiopfnnaaDoor
open Go Go.RowKit Go.Maps
attribute [local go_sem] Oper.semAt_some
theorem changes_any (C : Nat) (w : World) :
    Calls Tryd.prog 118 #[.pointer (some ⟨C, 0, none⟩)] w fun e w' => e = .returned (.func (.func 148) #[] #[.pointer (some ⟨w.heap.size, 0, none⟩)]) ∧ w' = w.alloc (.cells #[.pointer (some ⟨C, 0, none⟩)] 150) := by
  go_enter Tryd.func118, Tryd.ntmps118
  go_wp2
  go_ret
  exact ⟨rfl, rfl⟩
/-- Those of some items that are there in the second graph and mean something else. -/
def chEl {ss : List Sc} (tt : List Sc) (st : Int × Int → Option (Int × Int)) (pre : List (El ss)) : List (El ss) := pre.filter fun x => chgB1 ss tt st x.1
theorem chEl_snoc {ss tt : List Sc} {st : Int × Int → Option (Int × Int)} (pre : List (El ss)) (x : El ss) : chEl tt st (pre ++ [x]) = chEl tt st pre ++ if chgB1 ss tt st x.1 = true then [x] else [] := by
  unfold chEl
  rw [List.filter_append]
  congr 1
  by_cases h : chgB1 ss tt st x.1 = true
  · rw [if_pos h]; simp [h]
  · rw [if_neg h]; simp [h]
theorem chEl_all {ss tt : List Sc} {st : Int × Int → Option (Int × Int)} {ys : List (El ss)} (h : ys.map Subtype.val = placed 0 ss) : (chEl tt st ys).map (fun x => plOf x.1) = chgG ss tt st := by
  have key : ∀ L : List (Nat × Nat × It), ys.map Subtype.val = L → (ys.filter fun x => chgB1 ss tt st x.1).map (fun x => plOf x.1) = (L.filter (chgB1 ss tt st)).map plOf := by
    intro L hL
    rw [← hL, List.filter_map, List.map_map]
    rfl
  exact key _ h
theorem ownOver {β : Type} {B : Nat} {I : β → World → Prop} (h : OwnFrom B I) {s : β} {A C : World} (hs : I s A) (hb : Below A.heap.size A C) : I s C :=
  h s A C none hs ⟨hb.os, hb.tape, hb.output, hb.size, fun k hk _ => hb.block k hk⟩ (fun r e => by cases e)
/-- What stands in the second graph is an item there. -/
def StandsIn (ss tt : List Sc) (st : Int × Int → Option (Int × Int)) : Prop := ∀ q ∈ placed 0 ss, ∀ p, st (plOf q) = some p → ∃ (i j : Nat) (x : It), p = ((i : Int), (j : Int)) ∧ (i, j, x) ∈ placed 0 tt
theorem cell5 {w1 W : World} {p0 p1 p2 p3 : Addr} {v0 v1 v2 v3 : Value} (c0 : w1.cell? p0 = some v0) (c1 : w1.cell? p1 = some v1) (c2 : w1.cell? p2 = some v2) (c3 : w1.cell? p3 = some v3) (hb : Below w1.heap.size w1 W) :
    W.cell? p0 = some v0 ∧ W.cell? p1 = some v1 ∧ W.cell? p2 = some v2 ∧ W.cell? p3 = some v3 := ⟨cell_grow hb c0, cell_grow hb c1, cell_grow hb c2, cell_grow hb c3⟩
theorem ownUp2 {β : Type} {B B' : Nat} {I : β → World → Prop} (h : OwnFrom B I) (hB : B ≤ B') : OwnFrom B' I := fun s A C row hs hg hr => h s A C row hs hg (fun r e => ⟨Nat.le_trans hB (hr r e).1, (hr r e).2⟩)
theorem keepsUp {B B' : Nat} {A C : World} (h : KeepsFrom B A C) (hB : B ≤ B') : KeepsFrom B' A C := ⟨h.size, fun k o hk ho hc => h.same k o (Nat.le_trans hB hk) ho hc⟩
theorem keepsJoin {B : Nat} {A C E : World} (h : KeepsFrom B A C) (k : KeepsFrom B C E) : KeepsFrom B A E := ⟨Nat.le_trans h.size k.size, fun i o hi ho hc => k.same i o hi (h.same i o hi ho hc) hc⟩
/-- What a round keeps: all that lay below n; from m on whatever holds no places. -/
def PlKeep (n m : Nat) (A C : World) : Prop := Below n A C ∧ ∀ (g : Nat) (t : TypeId) (vs : List Value), m ≤ g → t ≠ 34 → Row A g t vs → Row C g t vs
set_option maxRecDepth 100000 in
set_option maxHeartbeats 16000000 in
theorem changes_seq {ss tt : List Sc} (hv : Valid ss) (hv2 : Valid tt) {st : Int × Int → Option (Int × Int)} (hin : StandsIn ss tt st) {w0 : World} {Bn C R1 R2 : Nat} {u : Value} (hC : CompIs w0 C R1 R2 u ss tt st) (hBn : w0.cell? ⟨Bn, 0, none⟩ = some (.pointer (some ⟨C, 0, none⟩))) :
    SeqOwn 6 Tryd.prog 148 #[.pointer (some ⟨Bn, 0, none⟩)] (fun x : El ss => #[.agg #[.int .i64 (x.1.1 : Int), .int .i64 (x.1.2.1 : Int)]]) (PlKeep w0.heap.size) (fun xs => xs.map (fun x => plOf x.1) = chgG ss tt st) (fun _ => True) 1000000 w0 := by
  intro l J Jx W hl hW hJ hJx hY h0
  have HJ := Lib.hid hJ
  have HJX := Lib.hid hJx
  have HY := Lib.hid hY
  have HCW := Lib.hid (hC.below hW)
  have HC := Lib.hid hC
  have HW := Lib.hid hW
  have HV := Lib.hid (And.intro hv (And.intro hv2 hin))
  have HBN := Lib.hid hBn
  have HLT := Lib.hid (World.block_lt_of_cell? _ _ hBn)
  have hbY := (Below.refl W.heap.size W).alloc (Nat.le_refl _) (.cells #[.func (.yield l) #[] #[]] 197)
  have RY := Lib.hid (Row.new W [.func (.yield l) #[] #[]] 197)
  have HBY := Lib.hid hbY
  have bn := cell_grow (hW.trans (hbY.mono hW.size)) hBn
  obtain ⟨f, lb, rfl, hen, hst⟩ := hC.stands
  have HST := Lib.hid hst
  have cc0 := ((HCW.out.below hbY).row).cell (i := 0) (v := .pointer (some ⟨R1, 0, none⟩)) (by rfl)
  obtain ⟨Br, T, M1, M2, MR, v, ds, le, hR⟩ := hC.res1
  have HR := Lib.hid hR
  have rr0 := (hR.below (hW.trans (hbY.mono hW.size))).box.cell (i := 0) (v := .pointer (some ⟨T, 0, none⟩)) (by rfl)
  have H0 := Lib.hid h0
  clear hv hv2 hin hC hBn hJ hJx hY hbY hst hR h0
  refine callsIn_of_wp_marks Tryd.func148 rfl trivial ?_ rfl
  simp only [Tryd.ntmps148, List.size_toArray, List.length_cons, List.length_nil, Nat.reduceAdd, Nat.reduceSub, Array.replicate_succ, Array.replicate_zero, List.push_toArray, List.append_toArray, List.nil_append, List.cons_append]
  gi_wp2_with fail
  refine ⟨trivial, ?_⟩
  gi_at_call 124
  refine ((callsIn_wide (n := 5)).2 (all_any _ _)).mono ?_
  rintro e w2 ⟨rfl, rfl⟩
  gi_wp2
  have hb2 : Below W.heap.size W ((W.alloc (.cells #[.func (.yield l) #[] #[]] 197)).alloc (.cells #[.pointer (some ⟨T, 0, none⟩)] 94)) := ((Below.refl _ _).alloc (Nat.le_refl _) _).alloc (by simp) _
  have bN := Boxed.new (W.alloc (.cells #[.func (.yield l) #[] #[]] 197)) 94 (.pointer (some ⟨T, 0, none⟩))
  rw [World.size_alloc] at bN
  have RY2 := RY.out.alloc (.cells #[.pointer (some ⟨T, 0, none⟩)] 94)
  have HB2 := Lib.hid (HW.out.trans (hb2.mono HW.out.size))
  have hsm := HV.out.1.small
  have hJ2 := ownOver HJ.out H0.out hb2
  obtain ⟨W2, hW2⟩ : ∃ W2, W2 = (W.alloc (.cells #[.func (.yield l) #[] #[]] 197)).alloc (.cells #[.pointer (some ⟨T, 0, none⟩)] 94) := ⟨_, rfl⟩
  have hsW2 : W2.heap.size = W.heap.size + 2 := by rw [hW2]; simp
  have hszW := HW.out.size
  rw [← hW2] at hb2 bN RY2 HB2 hJ2 ⊢
  clear bn cc0 rr0 hW2
  refine wpIn_rangeFunc_ownH rfl (by omega) (gf := 153) (lb := #[.pointer (some ⟨W.heap.size + 1, 0, none⟩)]) rfl trivial (enters_of Tryd.func153 (by kernel_rfl) rfl)
    (all_stops 5 (by omega) (W.heap.size + 1) _ T M1 M2 v ds ss w0 _ HR.out.tree.tree HR.out.tree.hold (HR.out.tree.ne HV.out.1) hsm.len hsm.items (.of_below HB2.out) bN.cell) CellsKept.trans (fun X k o o' _ h1 h2 h3 => cellsKept_b (w := w0) X k o o' (by simp at *; omega) h1 h2 h3) (Below.refl _ _) (fun _ => rfl)
    (fun pre X => J (chEl tt st pre) X ∧ (Row X W.heap.size 197 [.func (.yield l) #[] #[]] ∧ Below w0.heap.size w0 X))
    (fun c pre X => c = .ret ∧ ∃ pr, Jx pr X)
    (OwnFrom.and (fun s A E row hs hg hr => HJ.out (chEl tt st s) A E row hs hg (fun r e => ⟨by have := (hr r e).1; omega, (hr r e).2⟩)) (OwnFrom.and (row_own _ _ _ fun _ => _) (ownFrom_below (Nat.le_refl _) (by omega))))
    (fun c s A E row hs hg hr => ⟨hs.1, by obtain ⟨pr, hp⟩ := hs.2; exact ⟨pr, HJX.out pr A E row hp hg (fun r e => ⟨by have := (hr r e).1; omega, (hr r e).2⟩)⟩⟩)
    ⟨hJ2, RY2, HB2.out⟩
    (fun x a' X => ∃ Bp, Row X Bp 34 [.int .i64 (x.1.1 : Int), .int .i64 (x.1.2.1 : Int)] ∧
      a' = { tmps := #[.func (.yield l) #[] #[], .pointer (some ⟨Bn, 0, none⟩), .pointer (some ⟨W.heap.size, 0, none⟩), .pointer (some ⟨Bp, 0, none⟩), undef, undef, .pointer (some ⟨C, 0, none⟩), .pointer (some ⟨C, 0, none⟩), .pointer (some ⟨C, 0, none⟩), .pointer (some ⟨R1, 0, none⟩), .pointer (some ⟨R1, 0, none⟩), .pointer (some ⟨R1, 0, none⟩), .pointer (some ⟨T, 0, none⟩), .func (.func 153) #[] #[.pointer (some ⟨W.heap.size + 1, 0, none⟩)], .agg #[.int .i64 (x.1.1 : Int), .int .i64 (x.1.2.1 : Int)], .agg #[.int .i64 x.1.2.2.kind, .string x.1.2.2.name, .int .i64 x.1.2.2.scope], undef, undef, undef, undef, undef, undef, undef, undef, undef, undef, undef, undef, undef, undef, undef, undef, undef, undef, undef, undef, undef, undef, undef], defers := [] })
    (fun x a' _ X Y row hs hg hr => by obtain ⟨Bp, h1, h3⟩ := hs; exact ⟨Bp, h1.kept_cells hg (fun r e => (hr r e).2), h3⟩)
    ?assign ?body ?done ?stop
  case assign =>
    rintro l' pre x X K hi hK
    dsimp only [elArgs]
    gi_wp2
    have ha : Below X.heap.size X (X.alloc (.cells #[.int .i64 (x.1.1 : Int), .int .i64 (x.1.2.1 : Int)] 34)) := (Below.refl _ _).alloc (Nat.le_refl _) _
    obtain ⟨hj, hr, hbw⟩ := hi
    refine hK _ _ ((KeepsOthers.alloc _ _).from _) (.of_below (ha.mono hbw.size)) ⟨ownOver HJ.out hj ha, hr.alloc _, hbw.trans (ha.mono hbw.size)⟩ ⟨X.heap.size, Row.new X [.int .i64 (x.1.1 : Int), .int .i64 (x.1.2.1 : Int)] 34, rfl⟩
  case body =>
    rintro l' pre x a' Wx hl' _ hi ⟨Bp, hp, rfl⟩ hlen
    obtain ⟨⟨i, j, it⟩, hmem⟩ := x
    dsimp only at hp ⊢
    have HI := Lib.hid hi
    have HP := Lib.hid hp
    have hlt := HV.out.1.small.lt hmem
    dsimp only at hlt
    have cB := hi.2.2.cell (p := ⟨Bn, 0, none⟩) HLT.out |>.trans HBN.out
    have cF := (HC.out.row.below hi.2.2 HC.out.row.lt).cell (i := 2) (v := .func (.func f) #[] lb) (by rfl)
    have p0 := hp.cell (i := 0) (v := .int .i64 (i : Int)) (by rfl)
    have p1 := hp.cell (i := 1) (v := .int .i64 (j : Int)) (by rfl)
    have HIJ : Hid (i < 1000 ∧ j < 1000) := Lib.hid hlt
    have hbz := (Below.refl Wx.heap.size Wx).drew
    have hS0 := cell5 cB cF p0 p1 hbz
    have HS0 := Lib.hid hS0
    have HL := Lib.hid hlen
    clear hi hp hlt cB cF p0 p1 hbz hlen
    gi_wp2
    refine wpIn_region_kept (F := Fence.wide) (S := fun w' => w'.cell? ⟨Bn, 0, none⟩ = some (.pointer (some ⟨C, 0, none⟩)) ∧ w'.cell? ⟨C, 2, none⟩ = some (.func (.func f) #[] lb) ∧ w'.cell? ⟨Bp, 0, none⟩ = some (.int .i64 (i : Int)) ∧ w'.cell? ⟨Bp, 1, none⟩ = some (.int .i64 (j : Int))) 1000 l' (by kernel_rfl) (by kernel_rfl) ?_
    refine KeptAny.take (i := 0) (v := ?_) (by kernel_rfl) rfl rfl (by kernel_rfl) (by kernel_rfl) (by kernel_rfl) (fun _ _ _ h => h) (by rfl) (fun w' hw' => ?_) (fun _ => rfl) hS0 ?_
    rotate_left
    · (obtain ⟨g0, g1, g2, g3⟩ := hw'; go_simp; try with_reducible rfl)
    refine KeptAny.take (i := 1) (v := ?_) (by kernel_rfl) rfl rfl (by kernel_rfl) (by kernel_rfl) (by kernel_rfl) (fun _ _ _ h => h) (by rfl) (fun w' hw' => ?_) (fun _ => rfl) hS0 ?_
    rotate_left
    · (obtain ⟨g0, g1, g2, g3⟩ := hw'; go_simp; try with_reducible rfl)
    refine KeptAny.take (i := 2) (v := ?_) (by kernel_rfl) rfl rfl (by kernel_rfl) (by kernel_rfl) (by kernel_rfl) (fun _ _ _ h => h) (by rfl) (fun w' hw' => ?_) (fun _ => rfl) hS0 ?_
    rotate_left
    · (obtain ⟨g0, g1, g2, g3⟩ := hw'; go_simp; try with_reducible rfl)
    refine KeptAny.take (i := 3) (v := ?_) (by kernel_rfl) rfl rfl (by kernel_rfl) (by kernel_rfl) (by kernel_rfl) (fun _ _ _ h => h) (by rfl) (fun w' hw' => ?_) (fun _ => rfl) hS0 ?_
    rotate_left
    · (obtain ⟨g0, g1, g2, g3⟩ := hw'; go_simp; try with_reducible rfl)
    refine KeptAny.take (i := 4) (v := ?_) (by kernel_rfl) rfl rfl (by kernel_rfl) (by kernel_rfl) (by kernel_rfl) (fun _ _ _ h => h) (by rfl) (fun w' hw' => ?_) (fun _ => rfl) hS0 ?_
    rotate_left
    · (obtain ⟨g0, g1, g2, g3⟩ := hw'; go_simp; try with_reducible rfl)
    clear hS0
    refine KeptAny.two (i := 5) (j := 9) (by kernel_rfl) ⟨_, rfl, by rfl, fun K hK => ?_⟩ ⟨_, rfl, by rfl, fun K hK => ?_⟩
    · go_simp
      refine ⟨trivial, ?_⟩
      refine ((callsIn_wide (n := 3)).2 (HST.out i j _ HIJ.out.1 HIJ.out.2 (HI.out.2.2.trans (((Below.refl Wx.heap.size Wx).drew).mono HI.out.2.2.size)))).mono ?_
      rintro e w4 ⟨xx, yy, ok, rfl, hto, hb4⟩
      have HTO := Lib.hid hto
      have hS4 := And.intro (cell_grow hb4 HS0.out.1) (And.intro (cell_grow hb4 HS0.out.2.1) (And.intro (cell_grow hb4 HS0.out.2.2.1) (cell_grow hb4 HS0.out.2.2.2)))
      have hb4' : Below Wx.heap.size Wx w4 := ((Below.refl Wx.heap.size Wx).drew).trans hb4
      have hb5 := (Below.refl w4.heap.size w4).alloc (Nat.le_refl _) (.cells #[.int .i64 0, .int .i64 0] 34)
      have hb6 := (Below.refl w4.heap.size w4).alloc (Nat.le_refl _) (.cells #[.int .i64 xx, .int .i64 yy] 34)
      have hS5 := cell5 hS4.1 hS4.2.1 hS4.2.2.1 hS4.2.2.2 hb5
      have hS6 := cell5 hS4.1 hS4.2.1 hS4.2.2.1 hS4.2.2.2 hb6
      have ZB := Lib.hid (hb4'.trans (hb6.mono hb4'.size))
      have RG := Lib.hid (Row.new w4 [.int .i64 xx, .int .i64 yy] 34)
      refine hK.out _ _ hS4 (fun _ => ?_)
      clear hK hto hb4 hb4' hb5 hb6
      refine KeptAny.take (i := 6) (v := ?_) (by kernel_rfl) rfl rfl (by kernel_rfl) (by kernel_rfl) (by kernel_rfl) (fun _ _ _ h => h) (by rfl) (fun w' hw' => ?_) (fun _ => rfl) hS4 ?_
      rotate_left
      · (obtain ⟨g0, g1, g2, g3⟩ := hw'; go_simp; try with_reducible rfl)
      refine KeptAny.take (i := 7) (v := ?_) (by kernel_rfl) rfl rfl (by kernel_rfl) (by kernel_rfl) (by kernel_rfl) (fun _ _ _ h => h) (by rfl) (fun w' hw' => ?_) (fun _ => rfl) hS4 ?_
      rotate_left
      · (obtain ⟨g0, g1, g2, g3⟩ := hw'; go_simp; try with_reducible rfl)
      refine KeptAny.take (i := 8) (v := ?_) (by kernel_rfl) rfl rfl (by kernel_rfl) (by kernel_rfl) (by kernel_rfl) (fun _ _ _ h => h) (by rfl) (fun w' hw' => ?_) (fun _ => rfl) hS4 ?_
      rotate_left
      · (obtain ⟨g0, g1, g2, g3⟩ := hw'; go_simp; try with_reducible rfl)
      refine KeptAny.one (i := 9) (by kernel_rfl) rfl (by rfl) (fun K hK => ?_)
      go_simp
      refine hK.out _ _ hS5 (fun _ => ?_)
      clear hK
      refine KeptAny.one (i := 10) (by kernel_rfl) rfl (by rfl) (fun K hK => ?_)
      go_simp
      refine hK.out _ _ hS6 (fun _ => ?_)
      clear hK
      refine KeptAny.one (i := 11) (by kernel_rfl) rfl (by rfl) (fun K hK => ?_)
      go_simp
      refine hK.out _ _ hS6 (fun _ => ?_)
      clear hK hS4 hS5 hS6
      refine KeptAny.done (by kernel_rfl) ?_ _
      generalize w4.alloc (.cells #[.int .i64 xx, .int .i64 yy] 34) = wz at *
      have p0 := (HP.out.below ZB.out HP.out.lt).cell (i := 0) (v := .int .i64 (i : Int)) (by rfl)
      have p1 := (HP.out.below ZB.out HP.out.lt).cell (i := 1) (v := .int .i64 (j : Int)) (by rfl)
      have r0 := RG.out.cell (i := 0) (v := .int .i64 xx) (by rfl)
      have r1 := RG.out.cell (i := 1) (v := .int .i64 yy) (by rfl)
      have cB := (HI.out.2.2.trans (ZB.out.mono HI.out.2.2.size)).cell (p := ⟨Bn, 0, none⟩) HLT.out |>.trans HBN.out
      have ZI := Lib.hid (And.intro (ownOver HJ.out HI.out.1 ZB.out) (And.intro (HI.out.2.1.below ZB.out HI.out.2.1.lt) (HI.out.2.2.trans (ZB.out.mono HI.out.2.2.size))))
      have y0 := ZI.out.2.1.cell (i := 0) (v := .func (.yield l) #[] #[]) (by rfl)
      have HSZ : Hid (w0.heap.size ≤ Wx.heap.size) := Lib.hid HI.out.2.2.size
      cases ok
      · have HF : Hid (chEl tt st (pre ++ [(⟨(i, j, it), hmem⟩ : El ss)]) = chEl tt st pre) := Lib.hid (by
          rw [chEl_snoc, if_neg, List.append_nil]
          have h1 : st (plOf (i, j, it)) = none := by
            rcases HTO.out with ⟨h, _⟩ | ⟨_, h⟩
            · cases h
            · exact h
          unfold chgB1
          dsimp only
          rw [h1]
          simp)
        gi_wp2_with fail
        refine ⟨trivial, ?_⟩
        gi_wp2_with fail
        refine ⟨fun _ h => (by cases h), ?_⟩
        gi_wp2
        exact ⟨(keepsOthers_of_below ZB.out).from _, .of_below (ZB.out.mono HSZ.out), by rw [HF.out]; exact ZI.out.1, ZI.out.2⟩
      · have hss : st (plOf (i, j, it)) = some (xx, yy) := by
          rcases HTO.out with ⟨_, h⟩ | ⟨h, _⟩
          · exact h
          · cases h
        obtain ⟨i2, j2, x2, he, hq2⟩ := HV.out.2.2 (i, j, it) hmem (xx, yy) hss
        simp only [Prod.mk.injEq] at he
        obtain ⟨rfl, rfl⟩ := he
        have CS := Lib.hid (CallsIn.inRound l' ((callsIn_wide (n := 3)).2 (same_any HV.out.1 HV.out.2.1 (HC.out.below ZI.out.2.2) hmem hq2)))
        have HQ : Hid (chgB1 ss tt st (i, j, it) = !sameG tt st (meanIt ss (i, j, it)) ((i2 : Int), (j2 : Int))) := Lib.hid (by unfold chgB1; rw [hss])
        generalize sameG tt st (meanIt ss (i, j, it)) ((i2 : Int), (j2 : Int)) = sg at CS HQ
        clear hq2 hss
        gi_wp2_with fail
        refine ⟨trivial, ?_⟩
        gi_at_call 149
        refine CS.out.mono ?_
        rintro e w5 ⟨rfl, hb5⟩
        have ZB5 := Lib.hid (ZB.out.trans (hb5.mono ZB.out.size))
        have ZI5 := Lib.hid (And.intro (ownOver HJ.out ZI.out.1 hb5) (And.intro (ZI.out.2.1.below hb5 ZI.out.2.1.lt) (ZI.out.2.2.trans (hb5.mono ZI.out.2.2.size))))
        have y0 := ZI5.out.2.1.cell (i := 0) (v := .func (.yield l) #[] #[]) (by rfl)
        have p0 := (HP.out.below ZB5.out HP.out.lt).cell (i := 0) (v := .int .i64 (i : Int)) (by rfl)
        have p1 := (HP.out.below ZB5.out HP.out.lt).cell (i := 1) (v := .int .i64 (j : Int)) (by rfl)
        clear hb5 r0 r1 cB
        cases sg
        · have HF : Hid (chEl tt st (pre ++ [(⟨(i, j, it), hmem⟩ : El ss)]) = chEl tt st pre ++ [⟨(i, j, it), hmem⟩]) := Lib.hid (by
            rw [chEl_snoc, if_pos]
            rw [HQ.out]; rfl)
          have hlen2 : (chEl tt st pre).length < 1000000 := by
            have h1 : (chEl tt st pre).length ≤ pre.length := List.length_filter_le _ _
            have h2 := placed_bound 0 ss 6 5 HV.out.1.count.2 HV.out.1.five
            have h3 := HL.out
            omega
          obtain ⟨fn, tmps, assign, body, hyy, hR⟩ := HY.out 3 (chEl tt st pre) ⟨(i, j, it), hmem⟩ w5 ZI5.out.1 hlen2
          dsimp only at hyy
          have HUP := Lib.hid (show W.heap.size ≤ W2.heap.size by omega)
          gi_wp2
          refine hR.mono ?_
          rintro e w6 ⟨hkf, ⟨rfl, hj6, hb6, hr6⟩ | ⟨rfl, hx6⟩⟩
          · have HK6 := Lib.hid (keepsJoin ((keepsOthers_of_below ZB5.out).from W2.heap.size) (keepsUp hkf HUP.out))
            have HB6 := Lib.hid (Below.trans (ZB5.out.mono HSZ.out) hb6)
            have HJ6 : Hid (J (chEl tt st (pre ++ [(⟨(i, j, it), hmem⟩ : El ss)])) w6 ∧ (Row w6 W.heap.size 197 [.func (.yield l) #[] #[]] ∧ Below w0.heap.size w0 w6)) := Lib.hid ⟨by rw [HF.out]; exact hj6, hr6 _ _ _ (Nat.le_refl _) (by decide) ZI5.out.2.1, ZI5.out.2.2.trans hb6⟩
            clear hkf hj6 hb6 hr6
            gi_wp2
            exact ⟨HK6.out, .of_below HB6.out, HJ6.out⟩
          · have HK6 := Lib.hid (keepsJoin ((keepsOthers_of_below ZB5.out).from W2.heap.size) (keepsUp hkf HUP.out))
            have HX6 := Lib.hid hx6
            clear hkf hx6
            gi_wp2
            exact ⟨HK6.out, rfl, _, HX6.out⟩
        · have HF : Hid (chEl tt st (pre ++ [(⟨(i, j, it), hmem⟩ : El ss)]) = chEl tt st pre) := Lib.hid (by
            rw [chEl_snoc, if_neg, List.append_nil]
            rw [HQ.out]; simp)
          gi_wp2_with fail
          refine ⟨fun _ h => (by cases h), ?_⟩
          gi_wp2
          exact ⟨(keepsOthers_of_below ZB5.out).from _, .of_below (ZB5.out.mono HSZ.out), by rw [HF.out]; exact ZI5.out.1, ZI5.out.2⟩
    · go_simp
      have hbz : Below Wx.heap.size Wx (Wx.drew.alloc (.cells #[.int .i64 0, .int .i64 0] 34)) := ((Below.refl Wx.heap.size Wx).drew).alloc (Nat.le_refl Wx.heap.size) _
      have hbz0 : Below Wx.drew.heap.size Wx.drew (Wx.drew.alloc (.cells #[.int .i64 0, .int .i64 0] 34)) := (Below.refl _ _).alloc (Nat.le_refl _) _
      have hSz := And.intro (cell_grow hbz0 HS0.out.1) (And.intro (cell_grow hbz0 HS0.out.2.1) (And.intro (cell_grow hbz0 HS0.out.2.2.1) (cell_grow hbz0 HS0.out.2.2.2)))
      have RZ : Row (Wx.drew.alloc (.cells #[.int .i64 0, .int .i64 0] 34)) Wx.heap.size 34 [.int .i64 0, .int .i64 0] := Row.new Wx.drew [.int .i64 0, .int .i64 0] 34
      refine hK.out _ _ hSz (fun _ => ?_)
      clear hK
      refine KeptAny.one (i := 5) (by kernel_rfl) rfl (by rfl) (fun K hK => ?_)
      go_simp
      refine ⟨trivial, ?_⟩
      refine ((callsIn_wide (n := 3)).2 (HST.out i j _ HIJ.out.1 HIJ.out.2 (HI.out.2.2.trans (hbz.mono HI.out.2.2.size)))).mono ?_
      rintro e w4 ⟨xx, yy, ok, rfl, hto, hb4⟩
      have HTO := Lib.hid hto
      have hS4 := And.intro (cell_grow hb4 hSz.1) (And.intro (cell_grow hb4 hSz.2.1) (And.intro (cell_grow hb4 hSz.2.2.1) (cell_grow hb4 hSz.2.2.2)))
      have RZ4 := RZ.below hb4 RZ.lt
      have hb4' : Below Wx.heap.size Wx w4 := hbz.trans (hb4.mono hbz.size)
      have z0 := RZ4.cell (i := 0) (v := .int .i64 0) (by rfl)
      have z1 := RZ4.cell (i := 1) (v := .int .i64 0) (by rfl)
      have zf0 := RZ4.frozen 0
      have zf1 := RZ4.frozen 1
      have l0 : Bn ≠ Wx.heap.size := Nat.ne_of_lt (World.block_lt_of_cell? _ _ HS0.out.1)
      have l1 : C ≠ Wx.heap.size := Nat.ne_of_lt (World.block_lt_of_cell? _ _ HS0.out.2.1)
      have l2 : Bp ≠ Wx.heap.size := Nat.ne_of_lt (World.block_lt_of_cell? _ _ HS0.out.2.2.1)
      have far2 : ∀ (m k : Nat), m ≠ Wx.heap.size → ((w4.setCell ⟨Wx.heap.size, 0, none⟩ (.int .i64 xx)).setCell ⟨Wx.heap.size, 1, none⟩ (.int .i64 yy)).cell? ⟨m, k, none⟩ = w4.cell? ⟨m, k, none⟩ := fun m k h => by
        simp only [World.cell?]
        rw [Below.heap_setCell _ _ _ _ h, Below.heap_setCell _ _ _ _ h]
      have hS6 := And.intro ((far2 Bn 0 l0).trans hS4.1) (And.intro ((far2 C 2 l1).trans hS4.2.1) (And.intro ((far2 Bp 0 l2).trans hS4.2.2.1) ((far2 Bp 1 l2).trans hS4.2.2.2)))
      have ZB := Lib.hid ((hb4'.setCell (p := ⟨Wx.heap.size, 0, none⟩) (Nat.le_refl _) (.int .i64 xx)).setCell (p := ⟨Wx.heap.size, 1, none⟩) (Nat.le_refl _) (.int .i64 yy))
      have RG := Lib.hid ((RZ4.set 0 (.int .i64 xx)).set 1 (.int .i64 yy))
      refine hK.out _ _ hS4 (fun _ => ?_)
      clear hK hto hb4 hb4' hbz hbz0 RZ hSz l0 l1 l2 far2
      refine KeptAny.take (i := 6) (v := ?_) (by kernel_rfl) rfl rfl (by kernel_rfl) (by kernel_rfl) (by kernel_rfl) (fun _ _ _ h => h) (by rfl) (fun w' hw' => ?_) (fun _ => rfl) hS4 ?_
      rotate_left
      · (obtain ⟨g0, g1, g2, g3⟩ := hw'; go_simp; try with_reducible rfl)
      refine KeptAny.take (i := 7) (v := ?_) (by kernel_rfl) rfl rfl (by kernel_rfl) (by kernel_rfl) (by kernel_rfl) (fun _ _ _ h => h) (by rfl) (fun w' hw' => ?_) (fun _ => rfl) hS4 ?_
      rotate_left
      · (obtain ⟨g0, g1, g2, g3⟩ := hw'; go_simp; try with_reducible rfl)
      refine KeptAny.take (i := 8) (v := ?_) (by kernel_rfl) rfl rfl (by kernel_rfl) (by kernel_rfl) (by kernel_rfl) (fun _ _ _ h => h) (by rfl) (fun w' hw' => ?_) (fun _ => rfl) hS4 ?_
      rotate_left
      · (obtain ⟨g0, g1, g2, g3⟩ := hw'; go_simp; try with_reducible rfl)
      refine KeptAny.one (i := 10) (by kernel_rfl) rfl (by rfl) (fun K hK => ?_)
      go_simp
      refine hK.out _ _ hS6 (fun _ => ?_)
      clear hK
      refine KeptAny.one (i := 11) (by kernel_rfl) rfl (by rfl) (fun K hK => ?_)
      go_simp
      refine hK.out _ _ hS6 (fun _ => ?_)
      clear hK hS4 hS6 z0 z1 zf0 zf1 RZ4
      refine KeptAny.done (by kernel_rfl) ?_ _
      generalize (w4.setCell ⟨Wx.heap.size, 0, none⟩ (.int .i64 xx)).setCell ⟨Wx.heap.size, 1, none⟩ (.int .i64 yy) = wz at *
      have p0 := (HP.out.below ZB.out HP.out.lt).cell (i := 0) (v := .int .i64 (i : Int)) (by rfl)
      have p1 := (HP.out.below ZB.out HP.out.lt).cell (i := 1) (v := .int .i64 (j : Int)) (by rfl)
      have r0 := RG.out.cell (i := 0) (v := .int .i64 xx) (by rfl)
      have r1 := RG.out.cell (i := 1) (v := .int .i64 yy) (by rfl)
      have cB := (HI.out.2.2.trans (ZB.out.mono HI.out.2.2.size)).cell (p := ⟨Bn, 0, none⟩) HLT.out |>.trans HBN.out
      have ZI := Lib.hid (And.intro (ownOver HJ.out HI.out.1 ZB.out) (And.intro (HI.out.2.1.below ZB.out HI.out.2.1.lt) (HI.out.2.2.trans (ZB.out.mono HI.out.2.2.size))))
      have y0 := ZI.out.2.1.cell (i := 0) (v := .func (.yield l) #[] #[]) (by rfl)
      have HSZ : Hid (w0.heap.size ≤ Wx.heap.size) := Lib.hid HI.out.2.2.size
      cases ok
      · have HF : Hid (chEl tt st (pre ++ [(⟨(i, j, it), hmem⟩ : El ss)]) = chEl tt st pre) := Lib.hid (by
          rw [chEl_snoc, if_neg, List.append_nil]
          have h1 : st (plOf (i, j, it)) = none := by
            rcases HTO.out with ⟨h, _⟩ | ⟨_, h⟩
            · cases h
            · exact h
          unfold chgB1
          dsimp only
          rw [h1]
          simp)
        gi_wp2_with fail
        refine ⟨trivial, ?_⟩
        gi_wp2_with fail
        refine ⟨fun _ h => (by cases h), ?_⟩
        gi_wp2
        exact ⟨(keepsOthers_of_below ZB.out).from _, .of_below (ZB.out.mono HSZ.out), by rw [HF.out]; exact ZI.out.1, ZI.out.2⟩
      · have hss : st (plOf (i, j, it)) = some (xx, yy) := by
          rcases HTO.out with ⟨_, h⟩ | ⟨h, _⟩
          · exact h
          · cases h
        obtain ⟨i2, j2, x2, he, hq2⟩ := HV.out.2.2 (i, j, it) hmem (xx, yy) hss
        simp only [Prod.mk.injEq] at he
        obtain ⟨rfl, rfl⟩ := he
        have CS := Lib.hid (CallsIn.inRound l' ((callsIn_wide (n := 3)).2 (same_any HV.out.1 HV.out.2.1 (HC.out.below ZI.out.2.2) hmem hq2)))
        have HQ : Hid (chgB1 ss tt st (i, j, it) = !sameG tt st (meanIt ss (i, j, it)) ((i2 : Int), (j2 : Int))) := Lib.hid (by unfold chgB1; rw [hss])
        generalize sameG tt st (meanIt ss (i, j, it)) ((i2 : Int), (j2 : Int)) = sg at CS HQ
        clear hq2 hss
        gi_wp2_with fail
        refine ⟨trivial, ?_⟩
        gi_at_call 149
        refine CS.out.mono ?_
        rintro e w5 ⟨rfl, hb5⟩
        have ZB5 := Lib.hid (ZB.out.trans (hb5.mono ZB.out.size))
        have ZI5 := Lib.hid (And.intro (ownOver HJ.out ZI.out.1 hb5) (And.intro (ZI.out.2.1.below hb5 ZI.out.2.1.lt) (ZI.out.2.2.trans (hb5.mono ZI.out.2.2.size))))
        have y0 := ZI5.out.2.1.cell (i := 0) (v := .func (.yield l) #[] #[]) (by rfl)
        have p0 := (HP.out.below ZB5.out HP.out.lt).cell (i := 0) (v := .int .i64 (i : Int)) (by rfl)
        have p1 := (HP.out.below ZB5.out HP.out.lt).cell (i := 1) (v := .int .i64 (j : Int)) (by rfl)
        clear hb5 r0 r1 cB
        cases sg
        · have HF : Hid (chEl tt st (pre ++ [(⟨(i, j, it), hmem⟩ : El ss)]) = chEl tt st pre ++ [⟨(i, j, it), hmem⟩]) := Lib.hid (by
            rw [chEl_snoc, if_pos]
            rw [HQ.out]; rfl)
          have hlen2 : (chEl tt st pre).length < 1000000 := by
            have h1 : (chEl tt st pre).length ≤ pre.length := List.length_filter_le _ _
            have h2 := placed_bound 0 ss 6 5 HV.out.1.count.2 HV.out.1.five
            have h3 := HL.out
            omega
          obtain ⟨fn, tmps, assign, body, hyy, hR⟩ := HY.out 3 (chEl tt st pre) ⟨(i, j, it), hmem⟩ w5 ZI5.out.1 hlen2
          dsimp only at hyy
          have HUP := Lib.hid (show W.heap.size ≤ W2.heap.size by omega)
          gi_wp2
          refine hR.mono ?_
          rintro e w6 ⟨hkf, ⟨rfl, hj6, hb6, hr6⟩ | ⟨rfl, hx6⟩⟩
          · have HK6 := Lib.hid (keepsJoin ((keepsOthers_of_below ZB5.out).from W2.heap.size) (keepsUp hkf HUP.out))
            have HB6 := Lib.hid (Below.trans (ZB5.out.mono HSZ.out) hb6)
            have HJ6 : Hid (J (chEl tt st (pre ++ [(⟨(i, j, it), hmem⟩ : El ss)])) w6 ∧ (Row w6 W.heap.size 197 [.func (.yield l) #[] #[]] ∧ Below w0.heap.size w0 w6)) := Lib.hid ⟨by rw [HF.out]; exact hj6, hr6 _ _ _ (Nat.le_refl _) (by decide) ZI5.out.2.1, ZI5.out.2.2.trans hb6⟩
            clear hkf hj6 hb6 hr6
            gi_wp2
            exact ⟨HK6.out, .of_below HB6.out, HJ6.out⟩
          · have HK6 := Lib.hid (keepsJoin ((keepsOthers_of_below ZB5.out).from W2.heap.size) (keepsUp hkf HUP.out))
            have HX6 := Lib.hid hx6
            clear hkf hx6
            gi_wp2
            exact ⟨HK6.out, rfl, _, HX6.out⟩
        · have HF : Hid (chEl tt st (pre ++ [(⟨(i, j, it), hmem⟩ : El ss)]) = chEl tt st pre) := Lib.hid (by
            rw [chEl_snoc, if_neg, List.append_nil]
            rw [HQ.out]; simp)
          gi_wp2_with fail
          refine ⟨fun _ h => (by cases h), ?_⟩
          gi_wp2
          exact ⟨(keepsOthers_of_below ZB5.out).from _, .of_below (ZB5.out.mono HSZ.out), by rw [HF.out]; exact ZI5.out.1, ZI5.out.2⟩
  case done =>
    rintro D xs X hD hS ⟨hj, hr, hbw⟩ hK
    have HS := Lib.hid (chEl_all (tt := tt) (st := st) hS)
    have hj2 := (HJ.out).putObj (s := chEl tt st xs) (.deferred none) hj (by omega) hK rfl
    clear hS
    gi_wp2
    refine ⟨by simp, .inl ⟨_, _, rfl, run_takeDeferred hK, ?_⟩⟩
    exact ⟨_, results_none rfl _ _ _, ⟨_, rfl⟩, .inl ⟨_, HS.out, hj2⟩⟩
  case stop =>
    rintro D c pre X hD _ ⟨rfl, pr, hx⟩ hK
    have hx2 := (HJX.out).putObj (s := pr) (.deferred none) hx (by omega) hK rfl
    gi_wp2
    refine ⟨by simp, .inl ⟨_, _, rfl, run_takeDeferred hK, ?_⟩⟩
    exact ⟨_, results_none rfl _ _ _, ⟨_, rfl⟩, .inr ⟨_, trivial, hx2⟩⟩
end Go.Proofs.YtadpgoiiopfnnaaDoor
namespace Go.Proofs.YtadpgoiiopfnnaaDoor
open Go Go.RowKit Go.Maps
attribute [local go_sem] Oper.semAt_some
def elPls {ss : List Sc} (pre : List (El ss)) : List (Int × Int) := pre.map fun x => plOf x.1
theorem elPls_snoc {ss : List Sc} (pre : List (El ss)) (x : El ss) : elPls (pre ++ [x]) = elPls pre ++ [plOf x.1] := by unfold elPls; rw [List.map_append]; rfl
set_option maxRecDepth 100000 in
set_option maxHeartbeats 8000000 in
theorem appendSeq_any {ss tt : List Sc} (hv : Valid ss) (hv2 : Valid tt) {st : Int × Int → Option (Int × Int)} (hin : StandsIn ss tt st) {w : World} {Bn C R1 R2 : Nat} {u : Value} (hC : CompIs w C R1 R2 u ss tt st) (hBn : w.cell? ⟨Bn, 0, none⟩ = some (.pointer (some ⟨C, 0, none⟩))) :
    Calls Tryd.prog 147 #[.slice none 0 0, .func (.func 148) #[] #[.pointer (some ⟨Bn, 0, none⟩)]] w fun e w' => ∃ v, e = .returned v ∧ w'.ownsRow w.heap.size 34 2 v (chgG ss tt st).length (placeCells (chgG ss tt st)) ∧ Below w.heap.size w w' := by
  have SQ := Lib.hid (changes_seq hv hv2 hin hC hBn)
  have HLEN : Hid ((chgG ss tt st).length ≤ 1000) := Lib.hid (by
    have h1 := chgG_length ss tt st
    have h2 := placed_bound 0 ss 6 5 hv.count.2 hv.five
    omega)
  clear hC hBn hin hv hv2
  refine (callsIn_wide (n := 7)).1 ?_
  refine callsIn_of_wp_marks Tryd.func147 rfl trivial ?_ rfl
  simp only [Tryd.ntmps147, List.size_toArray, List.length_cons, List.length_nil, Nat.reduceAdd, Nat.reduceSub, Array.replicate_succ, Array.replicate_zero, List.push_toArray, List.append_toArray, List.nil_append, List.cons_append]
  gi_wp2
  have hbA := (Below.refl w.heap.size w).alloc (Nat.le_refl _) (.cells #[.slice none 0 0] 46)
  have bL := Boxed.new w 46 (.slice none 0 0)
  obtain ⟨W1, hW1⟩ : ∃ W1, W1 = w.alloc (.cells #[.slice none 0 0] 46) := ⟨_, rfl⟩
  have hs1 : W1.heap.size = w.heap.size + 1 := by rw [hW1]; simp
  rw [← hW1] at hbA bL ⊢
  clear hW1
  refine wpIn_rangeFunc_o (gf := 148) (lb := #[.pointer (some ⟨Bn, 0, none⟩)]) rfl (enters_of Tryd.func148 (by kernel_rfl) rfl) SQ.out
    (fun h k => ⟨h.1.trans (k.1.mono (Nat.le_refl _)), fun g t vs hg ht hr => k.2 g t vs hg ht (h.2 g t vs hg ht hr)⟩)
    (fun X k o o' hk ho hc _ => ⟨⟨rfl, rfl, rfl, by simp, fun m hm => World.putObj_heap_other (by omega)⟩, fun g t vs hg ht hr => by
      have hne : g ≠ k := by
        rintro rfl
        unfold Row at hr
        rw [hr] at ho
        cases ho
        cases hc
      exact (World.putObj_heap_other hne).trans hr⟩)
    hbA (fun _ => rfl)
    (fun pre X => (∃ u, Boxed X w.heap.size 46 u ∧ X.ownsRow w.heap.size 34 2 u (elPls pre).length (placeCells (elPls pre)) ∧ True) ∧ Below w.heap.size w X)
    (fun _ _ _ => False)
    (OwnFrom.and (Own.from (holdsRow_own w.heap.size w.heap.size 46 34 2 (fun pre : List (El ss) => (elPls pre).length) (fun pre => placeCells (elPls pre)) (fun _ _ => True)) _) (ownFrom_below (Nat.le_refl _) (by omega)))
    (fun _ _ _ _ _ hs _ _ => hs)
    ⟨⟨_, bL, World.ownsRow_nil _ _ _ _, trivial⟩, hbA⟩
    (fun x a' X => ∃ Bp, Row X Bp 34 [.int .i64 (x.1.1 : Int), .int .i64 (x.1.2.1 : Int)] ∧
      a' = { tmps := #[.slice none 0 0, .func (.func 148) #[] #[.pointer (some ⟨Bn, 0, none⟩)], .pointer (some ⟨w.heap.size, 0, none⟩), undef, .slice none 0 0, .pointer (some ⟨Bp, 0, none⟩), .func (.func 148) #[] #[.pointer (some ⟨Bn, 0, none⟩)], .agg #[.int .i64 (x.1.1 : Int), .int .i64 (x.1.2.1 : Int)], undef, undef, undef, undef, undef], defers := [] })
    (fun x a' _ X Y row hs hg hr => by obtain ⟨Bp, h1, h3⟩ := hs; exact ⟨Bp, h1.kept_cells hg (fun r e => (hr r e).2), h3⟩)
    ?assign ?body ?done ?stop
  case assign =>
    rintro l' pre x X K hi hK
    gi_wp2
    have ha : Below X.heap.size X (X.alloc (.cells #[.int .i64 (x.1.1 : Int), .int .i64 (x.1.2.1 : Int)] 34)) := (Below.refl _ _).alloc (Nat.le_refl _) _
    obtain ⟨⟨u, hB, hrow, -⟩, hbw⟩ := hi
    refine hK _ _ ((KeepsOthers.alloc _ _).from _) ⟨ha.mono hbw.size, fun g t vs _ _ hr => hr.alloc _⟩ ⟨⟨u, hB.alloc _, hrow.alloc _, trivial⟩, hbw.trans (ha.mono hbw.size)⟩ ⟨X.heap.size, Row.new X [.int .i64 (x.1.1 : Int), .int .i64 (x.1.2.1 : Int)] 34, rfl⟩
  case body =>
    rintro l' pre x a' X hl' _ ⟨⟨u, hB, hrow, -⟩, hbw⟩ ⟨Bp, hp, rfl⟩ hlen
    obtain ⟨⟨i, j, it⟩, hmem⟩ := x
    dsimp only at hp ⊢
    have hlen' : (elPls pre).length < 1000000 := by unfold elPls; rw [List.length_map]; exact hlen
    have p0 := hp.cell (i := 0) (by rfl)
    have p1 := hp.cell (i := 1) (by rfl)
    have hlt := hB.lt
    have HE : Hid (elPls (pre ++ [(⟨(i, j, it), hmem⟩ : El ss)]) = elPls pre ++ [((i : Int), (j : Int))]) := Lib.hid (elPls_snoc pre _)
    obtain ⟨v', w3, hrun, hown', hgrow⟩ := append_place0 hrow (i : Int) (j : Int) hlen' hbw.size 46
    have hown2 := hown'
    obtain ⟨g', cap', rfl⟩ := ownsRow_succ hown'
    simp [go_sem] at hrun
    obtain ⟨hv1, hv2, hr2, hk2, hb2⟩ := hB.appended (by decide) hrow hbw.size (Nat.le_refl _) hown2 hgrow
    have HKP : Hid (∀ (g : Nat) (t : TypeId) (vs : List Value), W1.heap.size + 2 ≤ g → t ≠ 34 → Row X g t vs → Row (w3.setCell ⟨w.heap.size, 0, none⟩ (.slice (some ⟨g', 0, none⟩) ((elPls pre).length + 1) cap')) g t vs) := Lib.hid (fun g t vs hg ht hr =>
      (((hr.alloc (.cells #[.int .i64 (i : Int), .int .i64 (j : Int)] 34)).grown hgrow (ownsRow_ne2 hr ht hrow)).other (a := ⟨w.heap.size, 0, none⟩) (by show w.heap.size ≠ g; omega) _))
    have c0 := hB.cell
    have c0' := (hB.alloc (.cells #[.int .i64 (i : Int), .int .i64 (j : Int)] 34)).cell
    have c1 := hv1.cell
    have f1 := hv1.frozen
    have HP := Lib.hid (And.intro hv2 (And.intro hr2 (And.intro hk2 hb2)))
    have HBW := Lib.hid hbw
    clear hB hrow hbw hown' hown2 hgrow hv1 hv2 hr2 hk2 hb2 hp
    gi_wp2
    refine ⟨HP.out.2.2.1.from _, ⟨HP.out.2.2.2, HKP.out⟩, ⟨_, HP.out.1, ?_, trivial⟩, HBW.out.trans HP.out.2.2.2⟩
    rw [HE.out, List.length_append, placeCells_snoc]
    exact HP.out.2.1
  case done =>
    rintro D xs X hD hS ⟨⟨u, hB, hrow, -⟩, hbw⟩ hK
    have cB := hB.cell
    have HS2 : Hid (elPls xs = chgG ss tt st) := Lib.hid hS
    clear hS
    gi_wp2
    refine ⟨by simp, .inl ⟨_, _, rfl, run_takeDeferred hK, ?_⟩⟩
    have hrow2 := ownsRow_putObj hrow (.deferred none) hK rfl
    rw [HS2.out] at hrow2
    have hend : Below w.heap.size w (X.putObj D (.deferred none)) := hbw.trans ⟨rfl, rfl, rfl, by simp, fun m hm => World.putObj_heap_other (by omega)⟩
    exact ⟨_, results_tmp rfl _ _ _, u, rfl, hrow2, hend⟩
  case stop =>
    rintro D c pre X _ _ h _
    exact h.elim
set_option maxRecDepth 100000 in
theorem collect_any {ss tt : List Sc} (hv : Valid ss) (hv2 : Valid tt) {st : Int × Int → Option (Int × Int)} (hin : StandsIn ss tt st) {w : World} {Bn C R1 R2 : Nat} {u : Value} (hC : CompIs w C R1 R2 u ss tt st) (hBn : w.cell? ⟨Bn, 0, none⟩ = some (.pointer (some ⟨C, 0, none⟩))) :
    Calls Tryd.prog 117 #[.func (.func 148) #[] #[.pointer (some ⟨Bn, 0, none⟩)]] w fun e w' => ∃ v, e = .returned v ∧ w'.ownsRow w.heap.size 34 2 v (chgG ss tt st).length (placeCells (chgG ss tt st)) ∧ Below w.heap.size w w' := by
  have A := Lib.hid (appendSeq_any hv hv2 hin hC hBn)
  clear hC hBn hin hv hv2
  go_enter Tryd.func117, Tryd.ntmps117
  go_wp2_with fail
  refine A.out.mono ?_
  rintro e w1 ⟨v, rfl, hown, hb⟩
  have HO := Lib.hid (And.intro hown hb)
  clear hown hb
  go_wp2
  go_ret
  exact ⟨v, rfl, HO.out.1, HO.out.2⟩
/-- What changedBetween answers. -/
def BetGot (l : List (Int × Int)) (w : World) (e : Ending) (w' : World) : Prop := ∃ v, e = .returned (.tuple #[v, .bool true]) ∧ w'.ownsRow w.heap.size 34 2 v l.length (placeCells l) ∧ Below w.heap.size w w'
set_option maxRecDepth 100000 in
set_option maxHeartbeats 4000000 in
theorem between_any (ss tt : List Sc) (hv : Valid ss) (hv2 : Valid tt) (hF : Fair ss) (hF2 : Fair tt) (oa ob : Option Addr) (cap cbp : Nat) (u : Value) (st : Int × Int → Option (Int × Int)) (hin : StandsIn ss tt st) (w : World) (hc : HoldsScopes w oa ss) (hc2 : HoldsScopes w ob tt) (hE : TreeErrs w) (hst : StandsOk w u st) :
    Calls Tryd.prog 75 #[.agg #[.slice oa ss.length cap], .agg #[.slice ob tt.length cbp], u] w (BetGot (chgG ss tt st) w) := by
  have hb0 : Below w.heap.size w ((w.alloc (.cells #[.slice oa ss.length cap] 30)).alloc (.cells #[.slice ob tt.length cbp] 30)) := ((Below.refl _ _).alloc (Nat.le_refl _) _).alloc (by simp) _
  have R1 := (Row.new w [.slice oa ss.length cap] 30).alloc (.cells #[.slice ob tt.length cbp] 30)
  have R2 := Row.new (w.alloc (.cells #[.slice oa ss.length cap] 30)) [.slice ob tt.length cbp] 30
  rw [World.size_alloc] at R2
  have C1 := Lib.hid (resolutionOf_any ss hF oa cap _ (hc.below hb0 (Nat.le_refl _)) (hE.below hb0 hE.size))
  have HB0 := Lib.hid hb0
  have HR2 := Lib.hid R2
  have HALL := Lib.hid (And.intro hv (And.intro hv2 (And.intro hF2 (And.intro hin (And.intro hc2 (And.intro hE hst))))))
  have g1 := R1.cell (i := 0) (by rfl)
  obtain ⟨f, lb, rfl, -, -⟩ := hst
  clear hv hv2 hF hF2 hin hc hc2 hE hb0 R1 R2
  go_enter Tryd.func75, Tryd.ntmps75
  go_wp2_with fail
  refine C1.out.mono ?_
  rintro e w1 (⟨hn, -, -⟩ | ⟨-, RR, T, M1, M2, MR, v, ds, le, rfl, hb1, hR⟩)
  · exact absurd HALL.out.1 hn
  · have HB1 := Lib.hid (HB0.out.trans (hb1.mono HB0.out.size))
    have HRI : Hid (ResIs w1 RR ss) := Lib.hid ⟨_, _, _, _, _, _, _, _, hR⟩
    have g2 := (HR2.out.below hb1 HR2.out.lt).cell (i := 0) (by rfl)
    have C2 := Lib.hid (resolutionOf_any tt HALL.out.2.2.1 ob cbp w1 (HALL.out.2.2.2.2.1.below HB1.out (Nat.le_refl _)) (HALL.out.2.2.2.2.2.1.below HB1.out HALL.out.2.2.2.2.2.1.size))
    clear hb1 hR g1
    go_wp2_with fail
    refine C2.out.mono ?_
    rintro e w2 (⟨hn, -, -⟩ | ⟨-, RS, T2, N1, N2, MS, v2, ds2, le2, rfl, hb2, hR2⟩)
    · exact absurd HALL.out.2.1 hn
    · have HB2 := Lib.hid (HB1.out.trans (hb2.mono HB1.out.size))
      have hbC := (Below.refl w2.heap.size w2).alloc (Nat.le_refl _) (.cells #[.pointer (some ⟨RR, 0, none⟩), .pointer (some ⟨RS, 0, none⟩), .func (.func f) #[] lb] 152)
      have HCI : Hid (CompIs (w2.alloc (.cells #[.pointer (some ⟨RR, 0, none⟩), .pointer (some ⟨RS, 0, none⟩), .func (.func f) #[] lb] 152)) w2.heap.size RR RS (.func (.func f) #[] lb) ss tt st) := Lib.hid
        ⟨Row.new w2 [.pointer (some ⟨RR, 0, none⟩), .pointer (some ⟨RS, 0, none⟩), .func (.func f) #[] lb] 152, (HRI.out.below hb2).below hbC, ResIs.below ⟨_, _, _, _, _, _, _, _, hR2⟩ hbC, HALL.out.2.2.2.2.2.2.below (HB2.out.trans (hbC.mono HB2.out.size))⟩
      have HB3 := Lib.hid (HB2.out.trans (hbC.mono HB2.out.size))
      clear hb2 hR2 hbC g2
      go_wp2_with fail
      generalize w2.alloc (.cells #[.pointer (some ⟨RR, 0, none⟩), .pointer (some ⟨RS, 0, none⟩), .func (.func f) #[] lb] 152) = w3 at *
      refine (changes_any w2.heap.size w3).mono ?_
      rintro e w4 ⟨rfl, rfl⟩
      have hbN := (Below.refl w3.heap.size w3).alloc (Nat.le_refl _) (.cells #[.pointer (some ⟨w2.heap.size, 0, none⟩)] 150)
      have RN := Row.new w3 [.pointer (some ⟨w2.heap.size, 0, none⟩)] 150
      have K := Lib.hid (collect_any HALL.out.1 HALL.out.2.1 HALL.out.2.2.2.1 (HCI.out.below hbN) (RN.cell (i := 0) (by rfl)))
      have HB4 := Lib.hid (HB3.out.trans (hbN.mono HB3.out.size))
      clear hbN RN
      go_wp2_with fail
      refine K.out.mono ?_
      rintro e w5 ⟨v5, rfl, hown, hb5⟩
      have HO := Lib.hid (And.intro (hown.mono HB4.out.size) (HB4.out.trans (hb5.mono HB4.out.size)))
      clear hown hb5
      go_wp2
      go_ret2
      exact ⟨v5, rfl, HO.out.1, HO.out.2⟩
end Go.Proofs.YtadpgoiiopfnnaaDoor
namespace Go.Proofs.YtadpgoiiopfnnaaDoor
open Go Go.RowKit
theorem aftB_nat (a b i j : Nat) : aftB (i : Int) (j : Int) (a : Int) (b : Int) = (aftN a b i j : Int) := by
  unfold aftB aftN
  by_cases h : i = a ∧ b < j
  · rw [if_pos ⟨by omega, by omega⟩, if_pos h]; omega
  · rw [if_neg (fun hh => h ⟨by omega, by omega⟩), if_neg h]
theorem aftI_B (a b : Int) (p : Int × Int) : aftI a b p = (p.1, aftB p.1 p.2 a b) := by
  unfold aftI aftB
  split <;> rfl
theorem grow6 {W W' : World} {p : Addr} {v : Value} (hb : Below W.heap.size W W') (h : W.cell? p = some v) : W'.cell? p = some v := (hb.cell (World.block_lt_of_cell? _ _ h)).trans h
theorem held5 {w w1 W : World} {p0 p1 p2 p3 p4 : Addr} {v0 v1 v2 v3 v4 : Value} (c0 : w1.cell? p0 = some v0) (c1 : w1.cell? p1 = some v1) (c2 : w1.cell? p2 = some v2) (c3 : w1.cell? p3 = some v3) (c4 : w1.cell? p4 = some v4) (B1 : Below w.heap.size w w1) (hb : Below w1.heap.size w1 W) :
    W.cell? p0 = some v0 ∧ W.cell? p1 = some v1 ∧ W.cell? p2 = some v2 ∧ W.cell? p3 = some v3 ∧ W.cell? p4 = some v4 ∧ Below w.heap.size w W ∧ Below w1.heap.size w1 W :=
  ⟨grow6 hb c0, grow6 hb c1, grow6 hb c2, grow6 hb c3, grow6 hb c4, B1.trans (hb.mono B1.size), hb⟩
theorem held6 {w1 W : World} {p0 p1 p2 p3 p4 p5 : Addr} {v0 v1 v2 v3 v4 v5 : Value} (c0 : w1.cell? p0 = some v0) (c1 : w1.cell? p1 = some v1) (c2 : w1.cell? p2 = some v2) (c3 : w1.cell? p3 = some v3) (c4 : w1.cell? p4 = some v4) (c5 : w1.cell? p5 = some v5) (hb : Below w1.heap.size w1 W) :
    W.cell? p0 = some v0 ∧ W.cell? p1 = some v1 ∧ W.cell? p2 = some v2 ∧ W.cell? p3 = some v3 ∧ W.cell? p4 = some v4 ∧ W.cell? p5 = some v5 ∧ Below w1.heap.size w1 W :=
  ⟨grow6 hb c0, grow6 hb c1, grow6 hb c2, grow6 hb c3, grow6 hb c4, grow6 hb c5, hb⟩
theorem same_len {ss : List Sc} {a b : Nat} {q : Nat × Nat × It} (h : (meanIt ss q).length ≠ (meanIt (rmvP ss a b) (q.1, aftN a b q.1 q.2.1, q.2.2)).length) : sameB ss a b q = false := by
  unfold sameB
  rw [Bool.and_eq_false_iff]
  right
  refine decide_eq_false fun e => h ?_
  rw [← e, List.length_map]
theorem same_in {ss : List Sc} {a b : Nat} {q : Nat × Nat × It} (h : ((a : Int), (b : Int)) ∈ meanIt ss q) : sameB ss a b q = false := by
  unfold sameB
  rw [decide_eq_true h]
  rfl
set_option maxRecDepth 100000 in
set_option maxHeartbeats 8000000 in
theorem l6Same_any (ss : List Sc) (hv : Valid ss) (hF : Fair ss) (oa oh : Option Addr) (cap caph : Nat) (a b : Nat) (hb' : b < 1000) {i j : Nat} {x : It} (hq : (i, j, x) ∈ placed 0 ss) (hne : ¬ (i = a ∧ j = b)) (w : World) (hc : HoldsScopes w oa ss) (hh : HoldsScopes w oh (rmvP ss a b)) :
    Calls Tryd.prog 116 #[.agg #[.slice oa ss.length cap], .agg #[.slice oh (rmvP ss a b).length caph], .agg #[.int .i64 (i : Int), .int .i64 (j : Int)], .agg #[.int .i64 (a : Int), .int .i64 (b : Int)]] w fun e w' => e = .returned (.bool (sameB ss a b (i, j, x))) ∧ Below w.heap.size w w' := by
  have hb0 := ((((Below.refl w.heap.size w).alloc (Nat.le_refl _) (.cells #[.slice oa ss.length cap] 30)).alloc (by simp) (.cells #[.slice oh (rmvP ss a b).length caph] 30)).alloc (by simp; omega) (.cells #[.int .i64 (i : Int), .int .i64 (j : Int)] 34)).alloc (by simp; omega) (.cells #[.int .i64 (a : Int), .int .i64 (b : Int)] 34)
  have RH0 := (Row.new (w.alloc (.cells #[.slice oa ss.length cap] 30)) [.slice oh (rmvP ss a b).length caph] 30)
  have RI0 := (Row.new ((w.alloc (.cells #[.slice oa ss.length cap] 30)).alloc (.cells #[.slice oh (rmvP ss a b).length caph] 30)) [.int .i64 (i : Int), .int .i64 (j : Int)] 34)
  have RA0 := (Row.new (((w.alloc (.cells #[.slice oa ss.length cap] 30)).alloc (.cells #[.slice oh (rmvP ss a b).length caph] 30)).alloc (.cells #[.int .i64 (i : Int), .int .i64 (j : Int)] 34)) [.int .i64 (a : Int), .int .i64 (b : Int)] 34)
  have RH := Lib.hid ((RH0.alloc (.cells #[.int .i64 (i : Int), .int .i64 (j : Int)] 34)).alloc (.cells #[.int .i64 (a : Int), .int .i64 (b : Int)] 34))
  have RI := Lib.hid (RI0.alloc (.cells #[.int .i64 (a : Int), .int .i64 (b : Int)] 34))
  have RA := Lib.hid RA0
  simp only [World.size_alloc] at RH RI RA
  have C1 := Lib.hid (specResolve_any ss hv hF.fits oa cap hq _ (hc.below hb0 (Nat.le_refl _)))
  have hlt := hv.small.lt hq
  have HI : Hid ((-9223372036854775808 ≤ (j : Int) ∧ (j : Int) ≤ 9223372036854775807) ∧ (-9223372036854775808 ≤ (b : Int) ∧ (b : Int) ≤ 9223372036854775807)) := Lib.hid ⟨by have := hlt.2; dsimp only at this; omega, by omega⟩
  have HV2 := Lib.hid (Valid.rmv hv a b)
  have HF2 := Lib.hid (hF.rmv a b)
  have HQ2 := Lib.hid (placed_rmv hq hne)
  have HQ := Lib.hid hq
  have HVV := Lib.hid hv
  have HAF := Lib.hid (aftB_nat a b i j)
  have HB0 := Lib.hid hb0
  have HH := Lib.hid hh
  clear hb0 RH0 RI0 RA0 hc hlt hq hne hh hv hF
  go_enter Tryd.func116, Tryd.ntmps116
  go_wp2_with fail
  refine C1.out.mono ?_
  intro e w1 hgot
  obtain ⟨v, rfl, hown, hb1⟩ := hgot
  obtain ⟨o1, c1, rfl, hap1⟩ := argPlaces_of_owns hown
  have B1 := Lib.hid (HB0.out.trans (hb1.mono HB0.out.size))
  have A1 := Lib.hid hap1
  have RH1 := Lib.hid (RH.out.below hb1 RH.out.lt)
  have RI1 := Lib.hid (RI.out.below hb1 RI.out.lt)
  have RA1 := Lib.hid (RA.out.below hb1 RA.out.lt)
  have h0 := RH1.out.cell (i := 0) (by rfl)
  have i0 := RI1.out.cell (i := 0) (by rfl)
  have i1 := RI1.out.cell (i := 1) (by rfl)
  have a0 := RA1.out.cell (i := 0) (by rfl)
  have a1 := RA1.out.cell (i := 1) (by rfl)
  clear hb1 hown hap1
  go_wp2
  go_cut [10] (fun s10 wx => ∃ o c, s10 = .slice o (meanIt (rmvP ss a b) (i, aftN a b i j, x)).length c ∧ ArgPlaces wx o (meanIt (rmvP ss a b) (i, aftN a b i j, x)) ∧ Below w1.heap.size w1 wx)
  case first =>
      go_region_held3 (fun w' => w'.cell? ⟨w.heap.size + 1, 0, none⟩ = some (.slice oh (rmvP ss a b).length caph) ∧ w'.cell? ⟨w.heap.size + 1 + 1, 0, none⟩ = some (.int .i64 (i : Int)) ∧ w'.cell? ⟨w.heap.size + 1 + 1, 1, none⟩ = some (.int .i64 (j : Int)) ∧ w'.cell? ⟨w.heap.size + 1 + 1 + 1, 0, none⟩ = some (.int .i64 (a : Int)) ∧ w'.cell? ⟨w.heap.size + 1 + 1 + 1, 1, none⟩ = some (.int .i64 (b : Int)) ∧ Below w.heap.size w w' ∧ Below w1.heap.size w1 w')
        (first
          | exact held5 h0 i0 i1 a0 a1 B1.out (Below.refl _ _)
          | exact held5 h0 i0 i1 a0 a1 B1.out (Below.refl _ _).drew
          | exact held5 h0 i0 i1 a0 a1 B1.out hBa
          | exact held5 h0 i0 i1 a0 a1 B1.out hBr
          | exact held5 h0 i0 i1 a0 a1 B1.out hBa.drew)
        (first
          | (go_at_call 81; refine (l6After_any (i : Int) (j : Int) (a : Int) (b : Int) HI.out.1 HI.out.2 _).mono ?_; rintro e wa ⟨rfl, hba⟩; rw [HAF.out]; have hBa := Below.trans (show Below w1.heap.size w1 _ from (And.right (And.right (And.right (And.right (And.right (And.right (by assumption)))))))) (hba.mono (Below.size (And.right (And.right (And.right (And.right (And.right (And.right (by assumption))))))))))
          | (go_at_call 82; refine (specResolve_any (rmvP ss a b) HV2.out HF2.out.fits oh caph HQ2.out _ (HH.out.below (And.left (And.right (And.right (And.right (And.right (And.right (by assumption))))))) (Nat.le_refl _))).mono ?_; intro e wr2 hgot; obtain ⟨v, rfl, hown, hbr⟩ := hgot; obtain ⟨o2, c2, rfl, hap⟩ := argPlaces_of_owns hown; have hBr := Below.trans (show Below w1.heap.size w1 _ from (And.right (And.right (And.right (And.right (And.right (And.right (by assumption)))))))) (hbr.mono (Below.size (And.right (And.right (And.right (And.right (And.right (And.right (by assumption)))))))))))
      all_goals go_wp2
      all_goals go_meet
      all_goals first
        | exact ⟨o2, c2, rfl, hap, hBr⟩
  case rest =>
    obtain ⟨o2, c2, rfl, hap2, hbc⟩ := hcut
    have B2 := Lib.hid (B1.out.trans (hbc.mono B1.out.size))
    have A12 := Lib.hid (A1.out.below hbc)
    have A22 := Lib.hid hap2
    have RA2 := Lib.hid (RA1.out.below hbc RA1.out.lt)
    have a0 := RA2.out.cell (i := 0) (by rfl)
    have a1 := RA2.out.cell (i := 1) (by rfl)
    have HL1 := meanIt_length HVV.out (i, j, x)
    have HL2 := meanIt_length HV2.out (i, aftN a b i j, x)
    have HP1 := Lib.hid (meanIt_isPlace HQ.out)
    have SL := Lib.hid (same_len (ss := ss) (a := a) (b := b) (q := (i, j, x)))
    have SI := Lib.hid (same_in (ss := ss) (a := a) (b := b) (q := (i, j, x)))
    have SD : Hid (sameB ss a b (i, j, x) = (!decide (((a : Int), (b : Int)) ∈ meanIt ss (i, j, x)) && decide ((meanIt ss (i, j, x)).map (aftI (a : Int) (b : Int)) = meanIt (rmvP ss a b) (i, aftN a b i j, x)))) := Lib.hid rfl
    clear hbc hap2 h0 i0 i1
    dsimp only at SL SI
    obtain ⟨sb, hsb⟩ : ∃ sb, sameB ss a b (i, j, x) = sb := ⟨_, rfl⟩
    rw [hsb] at SL SI SD
    have HSB := Lib.hid hsb
    clear hsb
    generalize meanIt (rmvP ss a b) (i, aftN a b i j, x) = aft at *
    generalize meanIt ss (i, j, x) = bef at *
    by_cases hl : bef.length = aft.length
    · have l1 : (((bef.length : Nat) : Int) != ((aft.length : Nat) : Int)) = false := by simp [hl]
      have l2 : (((bef.length : Nat) : Int) == ((aft.length : Nat) : Int)) = true := by simp [hl]
      have HL := Lib.hid hl
      clear hl
      go_wp2_with fail
      refine (l5In_any bef o1 c1 (a : Int) (b : Int) _ (by omega) A12.out).mono ?_
      rintro e w3 ⟨rfl, hb3⟩
      have B3 := Lib.hid (B2.out.trans (hb3.mono B2.out.size))
      have A13 := Lib.hid (A12.out.below hb3)
      have A23 := Lib.hid (A22.out.below hb3)
      have RA3 := Lib.hid (RA2.out.below hb3 RA2.out.lt)
      clear hb3 a0 a1
      by_cases hin : ((a : Int), (b : Int)) ∈ bef
      · have HS := Lib.hid (SI.out hin)
        rw [decide_eq_true hin]
        go_wp2
        go_ret
        exact ⟨by rw [HSB.out, HS.out] <;> rfl, B3.out⟩
      · rw [decide_eq_false hin]
        have SE : Hid (sb = decide (bef.map (aftI (a : Int) (b : Int)) = aft)) := Lib.hid (by rw [SD.out, decide_eq_false hin]; rfl)
        clear hin
        go_wp2
        go_loopw [33] (fun i' wr => ∃ k : Nat, i' = .int .i64 k ∧ k ≤ bef.length ∧ Hid (∀ m, m < k → (bef[m]?).map (aftI (a : Int) (b : Int)) = aft[m]?) ∧ Hid (Below w3.heap.size w3 wr)) (fun i' _ => bef.length - (intOf i').toNat)
        case atStart => exact ⟨0, rfl, Nat.zero_le _, Lib.hid (fun m hm => absurd hm (by omega)), Lib.hid (Below.refl _ _)⟩
        case round =>
          obtain ⟨k, rfl, hk, HR, HW⟩ := hrel
          by_cases hlt : k < bef.length
          · have hlt2 : k < aft.length := by have := HL.out; omega
            obtain ⟨⟨c, d⟩, hp⟩ : ∃ p, bef[k]? = some p := ⟨_, List.getElem?_eq_getElem hlt⟩
            obtain ⟨⟨e0, e1⟩, hp2⟩ : ∃ p, aft[k]? = some p := ⟨_, List.getElem?_eq_getElem hlt2⟩
            obtain ⟨b1, f1, rfl, hb1, q1⟩ := (A13.out.below HW.out).at (by omega)
            obtain ⟨b2, f2, rfl, hb2, q2⟩ := (A23.out.below HW.out).at (by omega)
            obtain ⟨x0, x1⟩ := q1 k _ hp
            obtain ⟨y0', y1'⟩ := q2 k _ hp2
            have HCD : Hid (-9223372036854775808 ≤ d ∧ d ≤ 9223372036854775807) := Lib.hid (by
              obtain ⟨ii, jj, cc, xx, he, hs1, hs2⟩ := HP1.out _ (List.mem_of_getElem? hp)
              have h1 := (Prod.mk.inj he).2
              have h2 := HVV.out.small.items cc (List.mem_of_getElem? hs1)
              have h3 := (List.getElem?_eq_some_iff.1 hs2).1
              omega)
            obtain ⟨z, hz⟩ : ∃ z, aftB c d (a : Int) (b : Int) = z := ⟨_, rfl⟩
            have HZ := Lib.hid hz
            have HAI : aftI (a : Int) (b : Int) (c, d) = (c, z) := by rw [aftI_B, hz]
            have HNX : Hid ((c, z) = (e0, e1) → ∀ m, m < k + 1 → (bef[m]?).map (aftI (a : Int) (b : Int)) = aft[m]?) := Lib.hid (by
              intro h m hm
              by_cases he : m = k
              · subst he
                rw [hp, hp2, Option.map_some, HAI, h]
              · exact HR.out m (by omega))
            have HBAD : Hid ((c, z) ≠ (e0, e1) → sb = false) := Lib.hid (by
              intro h
              rw [SE.out]
              refine decide_eq_false fun e => h ?_
              have h1 := congrArg (fun l => l[k]?) e
              try dsimp only at h1
              rw [List.getElem?_map, hp, hp2, Option.map_some, HAI] at h1
              exact Option.some.inj h1)
            have hbP := (Below.refl wr.heap.size wr).alloc (Nat.le_refl _) (.cells #[.int .i64 c, .int .i64 d] 34)
            have RQ := Lib.hid (Row.new wr [.int .i64 c, .int .i64 d] 34)
            have XP := Lib.hid (HW.out.trans (hbP.mono HW.out.size))
            have RA4 := Lib.hid (RA3.out.below XP.out RA3.out.lt)
            have y0 := grow6 hbP y0'
            have y1 := grow6 hbP y1'
            have q0 := RQ.out.cell (i := 0) (by rfl)
            have q1' := RQ.out.cell (i := 1) (by rfl)
            have a0 := RA4.out.cell (i := 0) (by rfl)
            have a1 := RA4.out.cell (i := 1) (by rfl)
            dsimp only at x0 x1 y0 y1
            clear hp hp2 q1 q2 hb1 hb2 hz HAI y0' y1' hbP
            by_cases h1 : c = e0
            · subst h1
              by_cases h2 : z = e1
              · subst h2
                have HG := Lib.hid (HNX.out rfl)
                go_wp2
                generalize wr.alloc (.cells #[.int .i64 c, .int .i64 d] 34) = wx at *
                refine wp_region_kept (S := fun w' => w'.cell? ⟨wr.heap.size, 0, none⟩ = some (.int .i64 c) ∧ w'.cell? ⟨wr.heap.size, 1, none⟩ = some (.int .i64 d) ∧ w'.cell? ⟨w.heap.size + 1 + 1 + 1, 0, none⟩ = some (.int .i64 (a : Int)) ∧ w'.cell? ⟨w.heap.size + 1 + 1 + 1, 1, none⟩ = some (.int .i64 (b : Int)) ∧ w'.cell? ⟨b2, f2 + k * 2, none⟩ = some (.int .i64 c) ∧ w'.cell? ⟨b2, f2 + k * 2 + 1, none⟩ = some (.int .i64 z)) 20 (by kernel_rfl) ?_
                have hS0 := And.intro (cell_drew q0) (And.intro (cell_drew q1') (And.intro (cell_drew a0) (And.intro (cell_drew a1) (And.intro (cell_drew y0) (cell_drew y1)))))
                refine KeptAny.take (i := 0) (v := ?_) (by kernel_rfl) rfl rfl (by kernel_rfl) (by kernel_rfl) (by kernel_rfl) (fun _ _ _ h => h) (by rfl) (fun w' hw' => ?_) (fun _ => rfl) hS0 ?_
                rotate_left
                · (obtain ⟨g0, g1, g2, g3, g4, g5⟩ := hw'; go_simp; try with_reducible rfl)
                refine KeptAny.take (i := 1) (v := ?_) (by kernel_rfl) rfl rfl (by kernel_rfl) (by kernel_rfl) (by kernel_rfl) (fun _ _ _ h => h) (by rfl) (fun w' hw' => ?_) (fun _ => rfl) hS0 ?_
                rotate_left
                · (obtain ⟨g0, g1, g2, g3, g4, g5⟩ := hw'; go_simp; try with_reducible rfl)
                refine KeptAny.take (i := 3) (v := ?_) (by kernel_rfl) rfl rfl (by kernel_rfl) (by kernel_rfl) (by kernel_rfl) (fun _ _ _ h => h) (by rfl) (fun w' hw' => ?_) (fun _ => rfl) hS0 ?_
                rotate_left
                · (obtain ⟨g0, g1, g2, g3, g4, g5⟩ := hw'; go_simp; try with_reducible rfl)
                refine KeptAny.take (i := 4) (v := ?_) (by kernel_rfl) rfl rfl (by kernel_rfl) (by kernel_rfl) (by kernel_rfl) (fun _ _ _ h => h) (by rfl) (fun w' hw' => ?_) (fun _ => rfl) hS0 ?_
                rotate_left
                · (obtain ⟨g0, g1, g2, g3, g4, g5⟩ := hw'; go_simp; try with_reducible rfl)
                refine KeptAny.take (i := 5) (v := ?_) (by kernel_rfl) rfl rfl (by kernel_rfl) (by kernel_rfl) (by kernel_rfl) (fun _ _ _ h => h) (by rfl) (fun w' hw' => ?_) (fun _ => rfl) hS0 ?_
                rotate_left
                · (obtain ⟨g0, g1, g2, g3, g4, g5⟩ := hw'; go_simp; try with_reducible rfl)
                refine KeptAny.take (i := 6) (v := ?_) (by kernel_rfl) rfl rfl (by kernel_rfl) (by kernel_rfl) (by kernel_rfl) (fun _ _ _ h => h) (by rfl) (fun w' hw' => ?_) (fun _ => rfl) hS0 ?_
                rotate_left
                · (obtain ⟨g0, g1, g2, g3, g4, g5⟩ := hw'; go_simp; try with_reducible rfl)
                have HD0 : Hid (Below wx.heap.size wx wx.drew) := Lib.hid ((Below.refl _ _).drew)
                have HS0 := Lib.hid hS0
                clear hS0 q0 q1' a0 a1 y0 y1
                refine KeptAny.one (i := 2) (by kernel_rfl) rfl (by rfl) (fun K hK => ?_)
                go_simp
                refine ⟨trivial, ?_⟩
                refine ((callsIn_wide (n := 5)).2 (l6After_any c d (a : Int) (b : Int) HCD.out HI.out.2 _)).mono ?_
                rintro e wa ⟨rfl, hba⟩
                rw [HZ.out]
                have HD1 := Lib.hid (HD0.out.trans (hba.mono HD0.out.size))
                have HSa := Lib.hid (And.intro (cell_grow hba HS0.out.1) (And.intro (cell_grow hba HS0.out.2.1) (And.intro (cell_grow hba HS0.out.2.2.1) (And.intro (cell_grow hba HS0.out.2.2.2.1) (And.intro (cell_grow hba HS0.out.2.2.2.2.1) (cell_grow hba HS0.out.2.2.2.2.2))))))
                clear hba
                refine hK.out _ _ HSa.out (fun _ => ?_)
                clear hK
                refine KeptAny.one (i := 7) (by kernel_rfl) rfl (by rfl) (fun K hK => ?_)
                go_simp
                refine hK.out _ _ HSa.out (fun _ => ?_)
                clear hK
                refine KeptAny.done (by kernel_rfl) ?_ _
                go_wp2
                go_roundw
                case rel => exact ⟨k + 1, by go_num, by omega, HG, Lib.hid (XP.out.trans (HD1.out.mono XP.out.size))⟩
                case measure => simp only [intOf]; omega
              · have HF := Lib.hid (HBAD.out (fun e => h2 (Prod.mk.inj e).2))
                have e1' : (z == e1) = false := by simpa using h2
                go_wp2
                generalize wr.alloc (.cells #[.int .i64 c, .int .i64 d] 34) = wx at *
                refine wp_region_kept (S := fun w' => w'.cell? ⟨wr.heap.size, 0, none⟩ = some (.int .i64 c) ∧ w'.cell? ⟨wr.heap.size, 1, none⟩ = some (.int .i64 d) ∧ w'.cell? ⟨w.heap.size + 1 + 1 + 1, 0, none⟩ = some (.int .i64 (a : Int)) ∧ w'.cell? ⟨w.heap.size + 1 + 1 + 1, 1, none⟩ = some (.int .i64 (b : Int)) ∧ w'.cell? ⟨b2, f2 + k * 2, none⟩ = some (.int .i64 c) ∧ w'.cell? ⟨b2, f2 + k * 2 + 1, none⟩ = some (.int .i64 e1)) 20 (by kernel_rfl) ?_
                have hS0 := And.intro (cell_drew q0) (And.intro (cell_drew q1') (And.intro (cell_drew a0) (And.intro (cell_drew a1) (And.intro (cell_drew y0) (cell_drew y1)))))
                refine KeptAny.take (i := 0) (v := ?_) (by kernel_rfl) rfl rfl (by kernel_rfl) (by kernel_rfl) (by kernel_rfl) (fun _ _ _ h => h) (by rfl) (fun w' hw' => ?_) (fun _ => rfl) hS0 ?_
                rotate_left
                · (obtain ⟨g0, g1, g2, g3, g4, g5⟩ := hw'; go_simp; try with_reducible rfl)
                refine KeptAny.take (i := 1) (v := ?_) (by kernel_rfl) rfl rfl (by kernel_rfl) (by kernel_rfl) (by kernel_rfl) (fun _ _ _ h => h) (by rfl) (fun w' hw' => ?_) (fun _ => rfl) hS0 ?_
                rotate_left
                · (obtain ⟨g0, g1, g2, g3, g4, g5⟩ := hw'; go_simp; try with_reducible rfl)
                refine KeptAny.take (i := 3) (v := ?_) (by kernel_rfl) rfl rfl (by kernel_rfl) (by kernel_rfl) (by kernel_rfl) (fun _ _ _ h => h) (by rfl) (fun w' hw' => ?_) (fun _ => rfl) hS0 ?_
                rotate_left
                · (obtain ⟨g0, g1, g2, g3, g4, g5⟩ := hw'; go_simp; try with_reducible rfl)
                refine KeptAny.take (i := 4) (v := ?_) (by kernel_rfl) rfl rfl (by kernel_rfl) (by kernel_rfl) (by kernel_rfl) (fun _ _ _ h => h) (by rfl) (fun w' hw' => ?_) (fun _ => rfl) hS0 ?_
                rotate_left
                · (obtain ⟨g0, g1, g2, g3, g4, g5⟩ := hw'; go_simp; try with_reducible rfl)
                refine KeptAny.take (i := 5) (v := ?_) (by kernel_rfl) rfl rfl (by kernel_rfl) (by kernel_rfl) (by kernel_rfl) (fun _ _ _ h => h) (by rfl) (fun w' hw' => ?_) (fun _ => rfl) hS0 ?_
                rotate_left
                · (obtain ⟨g0, g1, g2, g3, g4, g5⟩ := hw'; go_simp; try with_reducible rfl)
                refine KeptAny.take (i := 6) (v := ?_) (by kernel_rfl) rfl rfl (by kernel_rfl) (by kernel_rfl) (by kernel_rfl) (fun _ _ _ h => h) (by rfl) (fun w' hw' => ?_) (fun _ => rfl) hS0 ?_
                rotate_left
                · (obtain ⟨g0, g1, g2, g3, g4, g5⟩ := hw'; go_simp; try with_reducible rfl)
                have HD0 : Hid (Below wx.heap.size wx wx.drew) := Lib.hid ((Below.refl _ _).drew)
                have HS0 := Lib.hid hS0
                clear hS0 q0 q1' a0 a1 y0 y1
                refine KeptAny.one (i := 2) (by kernel_rfl) rfl (by rfl) (fun K hK => ?_)
                go_simp
                refine ⟨trivial, ?_⟩
                refine ((callsIn_wide (n := 5)).2 (l6After_any c d (a : Int) (b : Int) HCD.out HI.out.2 _)).mono ?_
                rintro e wa ⟨rfl, hba⟩
                rw [HZ.out]
                have HD1 := Lib.hid (HD0.out.trans (hba.mono HD0.out.size))
                have HSa := Lib.hid (And.intro (cell_grow hba HS0.out.1) (And.intro (cell_grow hba HS0.out.2.1) (And.intro (cell_grow hba HS0.out.2.2.1) (And.intro (cell_grow hba HS0.out.2.2.2.1) (And.intro (cell_grow hba HS0.out.2.2.2.2.1) (cell_grow hba HS0.out.2.2.2.2.2))))))
                clear hba
                refine hK.out _ _ HSa.out (fun _ => ?_)
                clear hK
                refine KeptAny.one (i := 7) (by kernel_rfl) rfl (by rfl) (fun K hK => ?_)
                go_simp
                refine hK.out _ _ HSa.out (fun _ => ?_)
                clear hK
                refine KeptAny.done (by kernel_rfl) ?_ _
                go_wp2
                go_ret
                exact ⟨by rw [HSB.out, HF.out] <;> rfl, B3.out.trans ((XP.out.trans (HD1.out.mono XP.out.size)).mono B3.out.size)⟩
            · have HF := Lib.hid (HBAD.out (fun e => h1 (Prod.mk.inj e).1))
              have e1' : (c == e0) = false := by simpa using h1
              go_wp2
              generalize wr.alloc (.cells #[.int .i64 c, .int .i64 d] 34) = wx at *
              refine wp_region_kept (S := fun w' => w'.cell? ⟨wr.heap.size, 0, none⟩ = some (.int .i64 c) ∧ w'.cell? ⟨wr.heap.size, 1, none⟩ = some (.int .i64 d) ∧ w'.cell? ⟨w.heap.size + 1 + 1 + 1, 0, none⟩ = some (.int .i64 (a : Int)) ∧ w'.cell? ⟨w.heap.size + 1 + 1 + 1, 1, none⟩ = some (.int .i64 (b : Int)) ∧ w'.cell? ⟨b2, f2 + k * 2, none⟩ = some (.int .i64 e0) ∧ w'.cell? ⟨b2, f2 + k * 2 + 1, none⟩ = some (.int .i64 e1)) 20 (by kernel_rfl) ?_
              have hS0 := And.intro (cell_drew q0) (And.intro (cell_drew q1') (And.intro (cell_drew a0) (And.intro (cell_drew a1) (And.intro (cell_drew y0) (cell_drew y1)))))
              refine KeptAny.take (i := 0) (v := ?_) (by kernel_rfl) rfl rfl (by kernel_rfl) (by kernel_rfl) (by kernel_rfl) (fun _ _ _ h => h) (by rfl) (fun w' hw' => ?_) (fun _ => rfl) hS0 ?_
              rotate_left
              · (obtain ⟨g0, g1, g2, g3, g4, g5⟩ := hw'; go_simp; try with_reducible rfl)
              refine KeptAny.take (i := 1) (v := ?_) (by kernel_rfl) rfl rfl (by kernel_rfl) (by kernel_rfl) (by kernel_rfl) (fun _ _ _ h => h) (by rfl) (fun w' hw' => ?_) (fun _ => rfl) hS0 ?_
              rotate_left
              · (obtain ⟨g0, g1, g2, g3, g4, g5⟩ := hw'; go_simp; try with_reducible rfl)
              refine KeptAny.take (i := 3) (v := ?_) (by kernel_rfl) rfl rfl (by kernel_rfl) (by kernel_rfl) (by kernel_rfl) (fun _ _ _ h => h) (by rfl) (fun w' hw' => ?_) (fun _ => rfl) hS0 ?_
              rotate_left
              · (obtain ⟨g0, g1, g2, g3, g4, g5⟩ := hw'; go_simp; try with_reducible rfl)
              refine KeptAny.take (i := 4) (v := ?_) (by kernel_rfl) rfl rfl (by kernel_rfl) (by kernel_rfl) (by kernel_rfl) (fun _ _ _ h => h) (by rfl) (fun w' hw' => ?_) (fun _ => rfl) hS0 ?_
              rotate_left
              · (obtain ⟨g0, g1, g2, g3, g4, g5⟩ := hw'; go_simp; try with_reducible rfl)
              refine KeptAny.take (i := 5) (v := ?_) (by kernel_rfl) rfl rfl (by kernel_rfl) (by kernel_rfl) (by kernel_rfl) (fun _ _ _ h => h) (by rfl) (fun w' hw' => ?_) (fun _ => rfl) hS0 ?_
              rotate_left
              · (obtain ⟨g0, g1, g2, g3, g4, g5⟩ := hw'; go_simp; try with_reducible rfl)
              refine KeptAny.take (i := 6) (v := ?_) (by kernel_rfl) rfl rfl (by kernel_rfl) (by kernel_rfl) (by kernel_rfl) (fun _ _ _ h => h) (by rfl) (fun w' hw' => ?_) (fun _ => rfl) hS0 ?_
              rotate_left
              · (obtain ⟨g0, g1, g2, g3, g4, g5⟩ := hw'; go_simp; try with_reducible rfl)
              have HD0 : Hid (Below wx.heap.size wx wx.drew) := Lib.hid ((Below.refl _ _).drew)
              have HS0 := Lib.hid hS0
              clear hS0 q0 q1' a0 a1 y0 y1
              refine KeptAny.one (i := 2) (by kernel_rfl) rfl (by rfl) (fun K hK => ?_)
              go_simp
              refine ⟨trivial, ?_⟩
              refine ((callsIn_wide (n := 5)).2 (l6After_any c d (a : Int) (b : Int) HCD.out HI.out.2 _)).mono ?_
              rintro e wa ⟨rfl, hba⟩
              rw [HZ.out]
              have HD1 := Lib.hid (HD0.out.trans (hba.mono HD0.out.size))
              have HSa := Lib.hid (And.intro (cell_grow hba HS0.out.1) (And.intro (cell_grow hba HS0.out.2.1) (And.intro (cell_grow hba HS0.out.2.2.1) (And.intro (cell_grow hba HS0.out.2.2.2.1) (And.intro (cell_grow hba HS0.out.2.2.2.2.1) (cell_grow hba HS0.out.2.2.2.2.2))))))
              clear hba
              refine hK.out _ _ HSa.out (fun _ => ?_)
              clear hK
              refine KeptAny.one (i := 7) (by kernel_rfl) rfl (by rfl) (fun K hK => ?_)
              go_simp
              refine hK.out _ _ HSa.out (fun _ => ?_)
              clear hK
              refine KeptAny.done (by kernel_rfl) ?_ _
              go_wp2
              go_ret
              exact ⟨by rw [HSB.out, HF.out] <;> rfl, B3.out.trans ((XP.out.trans (HD1.out.mono XP.out.size)).mono B3.out.size)⟩
          · obtain rfl : k = bef.length := by omega
            have HS : Hid (sb = true) := Lib.hid (by
              rw [SE.out]
              refine decide_eq_true (List.ext_getElem? fun m => ?_)
              rw [List.getElem?_map]
              by_cases hm : m < bef.length
              · exact HR.out m hm
              · rw [List.getElem?_eq_none (by omega), List.getElem?_eq_none (by have := HL.out; omega)]; rfl)
            go_wp2
            go_ret
            exact ⟨by rw [HSB.out, HS.out] <;> rfl, B3.out.trans (HW.out.mono B3.out.size)⟩
    · have hl2 : ((bef.length : Int) == (aft.length : Int)) = false := by simp; omega
      have HS := Lib.hid (SL.out hl)
      go_wp2
      go_ret
      exact ⟨by rw [HSB.out, HS.out] <;> rfl, B2.out⟩
end Go.Proofs.YtadpgoiiopfnnaaDoor
namespace Go.Proofs.YtadpgoiiopfnnaaDoor
open Go Go.RowKit
theorem OwnGr.holdsAt6 {w : World} {B : Nat} {o : Option Addr} {n c : Nat} {l : List Sc} {hs : List Value} (h : OwnGr w B (.slice o n c) l hs) : HoldsScopes w o l := by
  obtain ⟨o2, c2, he, hh⟩ := h.holds
  simp only [Value.slice.injEq] at he
  obtain ⟨rfl, -, -⟩ := he
  exact hh
/-- A graph stays where a list of places grows. -/
theorem OwnGr.pushed {w w' : World} {B B2 n : Nat} {v u : Value} {us : List Sc} {hs xs : List Value} {o : Obj} (h : OwnGr w B v us hs) (hp : w.ownsRow B2 34 2 u n xs) (hg : (w.alloc o).grownBy w' u.ownBlock) : OwnGr w' B v us hs :=
  ⟨h.len, ownsRow_apart (h.row.alloc o) hg (owns_types_apart h.row hp (by decide)), fun i s z h1 h2 => ownsRow_apart ((h.items i s z h1 h2).alloc o) hg (owns_types_apart (h.items i s z h1 h2) hp (by decide)), h.apart⟩
set_option maxRecDepth 100000 in
set_option maxHeartbeats 8000000 in
theorem l6Changed_any (ss : List Sc) (hv : Valid ss) (hF : Fair ss) (oa : Option Addr) (cap a b : Nat) {s0 : Sc} {x0 : It} (hs0 : ss[a]? = some s0) (hx0 : s0.items[b]? = some x0) (w : World) (hc : HoldsScopes w oa ss) :
    Calls Tryd.prog 74 #[.agg #[.slice oa ss.length cap], .agg #[.int .i64 (a : Int), .int .i64 (b : Int)]] w (PlsGot (chgP ss a b) w) := by
  have hb0 : Below w.heap.size w (((w.alloc (.cells #[.slice oa ss.length cap] 30)).alloc (.cells #[.int .i64 (a : Int), .int .i64 (b : Int)] 34)).alloc (.cells #[] 34)) := (((Below.refl _ _).alloc (Nat.le_refl _) _).alloc (by simp) _).alloc (by simp; omega) _
  have RG := Lib.hid (((Row.new w [.slice oa ss.length cap] 30).alloc (.cells #[.int .i64 (a : Int), .int .i64 (b : Int)] 34)).alloc (.cells #[] 34))
  have RH0 := (Row.new (w.alloc (.cells #[.slice oa ss.length cap] 30)) [.int .i64 (a : Int), .int .i64 (b : Int)] 34).alloc (.cells #[] 34)
  rw [World.size_alloc] at RH0
  have RH := Lib.hid RH0
  have hown0 : (((w.alloc (.cells #[.slice oa ss.length cap] 30)).alloc (.cells #[.int .i64 (a : Int), .int .i64 (b : Int)] 34)).alloc (.cells #[] 34)).ownsRow w.heap.size 34 2 (.slice (some ⟨w.heap.size + 1 + 1, 0, none⟩) 0 0) 0 [] := by
    have h0 := World.ownsRow_made (base := w.heap.size) (e := 34) (size := 2) ((w.alloc (.cells #[.slice oa ss.length cap] 30)).alloc (.cells #[.int .i64 (a : Int), .int .i64 (b : Int)] 34)) #[] 0 (by simp; omega) (by unfold maxLen; omega) rfl
    rw [World.size_alloc, World.size_alloc] at h0
    exact h0
  have h30 := placed_bound 0 ss 6 5 hv.count.2 hv.five
  have HAB : Hid (a < 1000 ∧ b < 1000) := Lib.hid ⟨by have h1 := (List.getElem?_eq_some_iff.1 hs0).1; have h2 := hv.count.2; omega, by have h1 := (List.getElem?_eq_some_iff.1 hx0).1; have h2 := hv.five s0 (List.mem_of_getElem? hs0); omega⟩
  have C1 := Lib.hid (specRemove_any ss (by have := hv.count.2; omega) (fun s hs => by have := hv.five s hs; omega) oa cap a b s0 x0 hs0 hx0 _ (hc.below hb0 (Nat.le_refl _)))
  have HO0 := Lib.hid hown0
  have HB0 := Lib.hid hb0
  have HC := Lib.hid hc
  have HF := Lib.hid hF
  have HV := Lib.hid hv
  have g0 := RG.out.cell (i := 0) (by rfl)
  have e0 := RH.out.cell (i := 0) (v := .int .i64 (a : Int)) (by rfl)
  have e1 := RH.out.cell (i := 1) (v := .int .i64 (b : Int)) (by rfl)
  have HS1 : Hid (w.heap.size + 1 + 1 < (((w.alloc (.cells #[.slice oa ss.length cap] 30)).alloc (.cells #[.int .i64 (a : Int), .int .i64 (b : Int)] 34)).alloc (.cells #[] 34)).heap.size) := Lib.hid (by simp)
  clear hF hc hb0 hown0 RH0 hs0 hx0
  go_enter Tryd.func74, Tryd.ntmps74
  go_wp2_with fail
  generalize (((w.alloc (.cells #[.slice oa ss.length cap] 30)).alloc (.cells #[.int .i64 (a : Int), .int .i64 (b : Int)] 34)).alloc (.cells #[] 34)) = w2 at *
  refine C1.out.mono ?_
  rintro e w3 ⟨v, hs, rfl, hO, hb3⟩
  obtain ⟨oh, ch, rfl, -⟩ := hO.holds
  have hbN := (Below.refl w3.heap.size w3).alloc (Nat.le_refl _) (.cells #[.slice oh (rmvP ss a b).length ch] 30)
  have hbx := hb3.trans (hbN.mono hb3.size)
  have RN := Lib.hid (Row.new w3 [.slice oh (rmvP ss a b).length ch] 30)
  have RG1 := Lib.hid (RG.out.below hbx RG.out.lt)
  have RH1 := Lib.hid (RH.out.below hbx RH.out.lt)
  have HO1 := Lib.hid (ownsRow_below HO0.out hbx)
  have HB1 := Lib.hid (HB0.out.trans (hbx.mono HB0.out.size))
  have HGR := Lib.hid ((hO.below hbN).lower HB0.out.size)
  have HS2 : Hid (w.heap.size + 1 + 1 < (w3.alloc (.cells #[.slice oh (rmvP ss a b).length ch] 30)).heap.size) := Lib.hid (Nat.lt_of_lt_of_le HS1.out hbx.size)
  have C3 := Lib.hid (l4Items_any ss (by have := HV.out.count.2; omega) (fun s hs => by have := HV.out.five s hs; omega) (by omega) oa cap _ (HC.out.below HB1.out (Nat.le_refl _)))
  have g1 := RG1.out.cell (i := 0) (v := .slice oa ss.length cap) (by rfl)
  clear hv hO hb3 hbN hbx g0 e0 e1
  go_wp2_with fail
  generalize w3.alloc (.cells #[.slice oh (rmvP ss a b).length ch] 30) = w4 at *
  refine C3.out.mono ?_
  rintro e w5 ⟨tl, rfl, htl, hb5⟩
  have hfar : tl = .slice none 0 0 ∨ tl.ownBlock ≠ (Value.slice (some ⟨w.heap.size + 1 + 1, 0, none⟩) 0 0).ownBlock := by
    rcases htl.2 with h1 | ⟨g, cp, cur, rfl, hgB, _⟩
    · exact .inl h1.1
    · refine .inr fun e => ?_
      simp only [Value.ownBlock, Option.some.injEq] at e
      have := HS2.out
      omega
  have HI3 : Hid (ItemsAt w w5 oa cap ss.length w4.heap.size (.slice (some ⟨w.heap.size + 1 + 1, 0, none⟩) 0 0) tl [] (plsAll (placed 0 ss)) ∧ Row w5 (w.heap.size + 1) 34 [.int .i64 (a : Int), .int .i64 (b : Int)] ∧ Row w5 w3.heap.size 30 [.slice oh (rmvP ss a b).length ch] ∧ some (w.heap.size + 1) ≠ (Value.slice (some ⟨w.heap.size + 1 + 1, 0, none⟩) 0 0).ownBlock ∧ OwnGr w5 w.heap.size (.slice oh (rmvP ss a b).length ch) (rmvP ss a b) hs) := Lib.hid
    ⟨⟨RG1.out.below hb5 RG1.out.lt, ownsRow_below HO1.out hb5, htl, hfar, HB1.out.trans (hb5.mono HB1.out.size)⟩, RH1.out.below hb5 RH1.out.lt, RN.out.below hb5 RN.out.lt, (by intro e; simp only [Value.ownBlock, Option.some.injEq] at e; omega), HGR.out.below hb5⟩
  obtain ⟨ot, ct, rfl, hat⟩ := argPlaces_of_owns htl
  have HLN : Hid ((plsAll (placed 0 ss)).length = (placed 0 ss).length) := Lib.hid (plsAll_length _)
  have hln : (plsAll (placed 0 ss)).length ≤ 30 := by rw [plsAll_length]; exact h30
  clear hb5 htl hat g1 hfar
  go_wp2
  go_loopw [5, 16] (fun v i wr => ∃ k : Nat, i = .int .i64 k ∧ k ≤ (plsAll (placed 0 ss)).length ∧ Hid (ItemsAt w wr oa cap ss.length w4.heap.size v (.slice ot (plsAll (placed 0 ss)).length ct) (filtL (chgB ss a b) ((placed 0 ss).take k)) (plsAll (placed 0 ss)) ∧ Row wr (w.heap.size + 1) 34 [.int .i64 (a : Int), .int .i64 (b : Int)] ∧ Row wr w3.heap.size 30 [.slice oh (rmvP ss a b).length ch] ∧ some (w.heap.size + 1) ≠ v.ownBlock ∧ OwnGr wr w.heap.size (.slice oh (rmvP ss a b).length ch) (rmvP ss a b) hs)) (fun _ i _ => (plsAll (placed 0 ss)).length - (intOf i).toNat)
  case atStart => exact ⟨0, rfl, Nat.zero_le _, HI3⟩
  case round =>
    obtain ⟨k, rfl, hk, hP⟩ := hrel
    by_cases hlt : k < (plsAll (placed 0 ss)).length
    · obtain ⟨⟨i, j, x⟩, hqk⟩ : ∃ q, (placed 0 ss)[k]? = some q := ⟨_, List.getElem?_eq_getElem (by rw [HLN.out] at hlt; exact hlt)⟩
      have hqm := List.mem_of_getElem? hqk
      obtain ⟨o', c', he', hat⟩ := argPlaces_of_owns hP.out.1.lst
      cases he'
      obtain ⟨b5, f5, rfl, hb5, q5⟩ := hat.at (by omega)
      obtain ⟨r0, r1⟩ := q5 k ((i : Int), (j : Int)) (plsAll_at hqk)
      have hba := (Below.refl wr.heap.size wr).alloc (Nat.le_refl _) (.cells #[.int .i64 (i : Int), .int .i64 (j : Int)] 34)
      have HPA := Lib.hid (And.intro (hP.out.1.step hba) (And.intro (hP.out.2.1.below hba hP.out.2.1.lt) (And.intro (hP.out.2.2.1.below hba hP.out.2.2.1.lt) (And.intro hP.out.2.2.2.1 (hP.out.2.2.2.2.below hba)))))
      have g4 := HPA.out.1.box.cell (i := 0) (by rfl)
      have h4 := HPA.out.2.2.1.cell (i := 0) (v := .slice oh (rmvP ss a b).length ch) (by rfl)
      have b0 := HPA.out.2.1.cell (i := 0) (v := .int .i64 (a : Int)) (by rfl)
      have b1 := HPA.out.2.1.cell (i := 1) (v := .int .i64 (b : Int)) (by rfl)
      have RPB := Lib.hid (Row.new wr [.int .i64 (i : Int), .int .i64 (j : Int)] 34)
      have a0 := RPB.out.cell (i := 0) (v := .int .i64 (i : Int)) (by rfl)
      have a1 := RPB.out.cell (i := 1) (v := .int .i64 (j : Int)) (by rfl)
      have HST : Hid (filtL (chgB ss a b) ((placed 0 ss).take (k + 1)) = filtL (chgB ss a b) ((placed 0 ss).take k) ++ if chgB ss a b (i, j, x) = true then [((i : Int), (j : Int))] else []) := Lib.hid (by rw [List.take_add_one, hqk]; exact filtL_snoc _ _ _)
      have HQM := Lib.hid hqm
      have hsl : (filtL (chgB ss a b) ((placed 0 ss).take k)).length < 1000000 := by
        have h1 := filtL_length (chgB ss a b) ((placed 0 ss).take k)
        rw [List.length_take] at h1
        omega
      clear hba q5 hat hqk hqm
      by_cases hi : i = a
      · by_cases hj : j = b
        · subst hi
          subst hj
          have HE : Hid (filtL (chgB ss i j) ((placed 0 ss).take (k + 1)) = filtL (chgB ss i j) ((placed 0 ss).take k)) := Lib.hid (by rw [HST.out]; unfold chgB; simp)
          go_wp2
          generalize wr.alloc (.cells #[.int .i64 (i : Int), .int .i64 (j : Int)] 34) = wA at *
          go_roundw
          case rel => exact ⟨k + 1, by go_num, by omega, by rw [HE.out]; exact HPA⟩
          case measure => simp only [intOf]; omega
        · have HNJ := Lib.hid hj
          have d1 : ((j : Int) == (b : Int)) = false := by simp; omega
          subst hi
          have C4 := Lib.hid (l6Same_any ss HV.out HF.out oa oh cap ch i b HAB.out.2 HQM.out (fun h => HNJ.out h.2) (wr.alloc (.cells #[.int .i64 (i : Int), .int .i64 (j : Int)] 34)) (HC.out.below HPA.out.1.below (Nat.le_refl _)) HPA.out.2.2.2.2.holdsAt6)
          go_wp2_with fail
          refine C4.out.mono ?_
          rintro e w5 ⟨rfl, hb6⟩
          have HP5 := Lib.hid (And.intro (HPA.out.1.step hb6) (And.intro (HPA.out.2.1.below hb6 HPA.out.2.1.lt) (And.intro (HPA.out.2.2.1.below hb6 HPA.out.2.2.1.lt) (And.intro HPA.out.2.2.2.1 (HPA.out.2.2.2.2.below hb6)))))
          have RP5 := Lib.hid (RPB.out.below hb6 RPB.out.lt)
          have p0 := RP5.out.cell (i := 0) (v := .int .i64 (i : Int)) (by rfl)
          have p1 := RP5.out.cell (i := 1) (v := .int .i64 (j : Int)) (by rfl)
          have HSZ5 := Lib.hid (Nat.le_trans HPA.out.1.below.size hb6.size)
          have HCB : Hid (chgB ss i b (i, j, x) = !(sameB ss i b (i, j, x))) := Lib.hid (by unfold chgB; rw [show decide (((i, j, x) : Nat × Nat × It).1 = i ∧ ((i, j, x) : Nat × Nat × It).2.1 = b) = false from decide_eq_false (fun h => HNJ.out h.2)]; rfl)
          obtain ⟨q, hq⟩ : ∃ q, sameB ss i b (i, j, x) = q := ⟨_, rfl⟩
          rw [hq]
          have HQ := Lib.hid hq
          clear hb6 hq g4 h4 a0 a1 b0 b1 r0 r1
          cases q
          · have HE : Hid (filtL (chgB ss i b) ((placed 0 ss).take (k + 1)) = filtL (chgB ss i b) ((placed 0 ss).take k) ++ [((i : Int), (j : Int))]) := Lib.hid (by rw [HST.out, HCB.out, HQ.out]; rfl)
            obtain ⟨v', w7, hrun, hown', hgrow, hbl⟩ := append_place_at HP5.out.1.row (i : Int) (j : Int) hsl HSZ5.out 46
            have HP7 : Hid (ItemsAt w w7 oa cap ss.length w4.heap.size v' _ (filtL (chgB ss i b) ((placed 0 ss).take (k + 1))) (plsAll (placed 0 ss)) ∧ Row w7 (w.heap.size + 1) 34 [.int .i64 (i : Int), .int .i64 (b : Int)] ∧ Row w7 w3.heap.size 30 [.slice oh (rmvP ss i b).length ch] ∧ some (w.heap.size + 1) ≠ v'.ownBlock ∧ OwnGr w7 w.heap.size (.slice oh (rmvP ss i b).length ch) (rmvP ss i b) hs) := Lib.hid
              ⟨by rw [HE.out]; exact HP5.out.1.snoc hown' hgrow hbl, (HP5.out.2.1.alloc _).grown hgrow HP5.out.2.2.2.1, (HP5.out.2.2.1.alloc _).grown hgrow (ownsRow_ne2 HP5.out.2.2.1 (by decide) HP5.out.1.row), (by
                rcases hbl with h | h
                · rw [h]; exact HP5.out.2.2.2.1
                · rw [h]; intro e; have h1 := Option.some.inj e; have h2 := HP5.out.2.1.lt; omega), HP5.out.2.2.2.2.pushed HP5.out.1.row hgrow⟩
            have HRUN := Lib.hid hrun
            clear hown' hgrow hbl hrun
            go_wp2_with (at_builtin; refine wpList_append_run rfl _ _ 46 rfl HRUN.out ?_)
            go_wp2
            go_roundw
            case rel => exact ⟨k + 1, by go_num, by omega, HP7⟩
            case measure => simp only [intOf]; omega
          · have HE : Hid (filtL (chgB ss i b) ((placed 0 ss).take (k + 1)) = filtL (chgB ss i b) ((placed 0 ss).take k)) := Lib.hid (by rw [HST.out, HCB.out, HQ.out]; simp)
            go_wp2
            go_roundw
            case rel => exact ⟨k + 1, by go_num, by omega, by rw [HE.out]; exact HP5⟩
            case measure => simp only [intOf]; omega
      · have HNJ := Lib.hid hi
        have d1 : ((i : Int) == (a : Int)) = false := by simp; omega
        have C4 := Lib.hid (l6Same_any ss HV.out HF.out oa oh cap ch a b HAB.out.2 HQM.out (fun h => HNJ.out h.1) (wr.alloc (.cells #[.int .i64 (i : Int), .int .i64 (j : Int)] 34)) (HC.out.below HPA.out.1.below (Nat.le_refl _)) HPA.out.2.2.2.2.holdsAt6)
        go_wp2_with fail
        refine C4.out.mono ?_
        rintro e w5 ⟨rfl, hb6⟩
        have HP5 := Lib.hid (And.intro (HPA.out.1.step hb6) (And.intro (HPA.out.2.1.below hb6 HPA.out.2.1.lt) (And.intro (HPA.out.2.2.1.below hb6 HPA.out.2.2.1.lt) (And.intro HPA.out.2.2.2.1 (HPA.out.2.2.2.2.below hb6)))))
        have RP5 := Lib.hid (RPB.out.below hb6 RPB.out.lt)
        have p0 := RP5.out.cell (i := 0) (v := .int .i64 (i : Int)) (by rfl)
        have p1 := RP5.out.cell (i := 1) (v := .int .i64 (j : Int)) (by rfl)
        have HSZ5 := Lib.hid (Nat.le_trans HPA.out.1.below.size hb6.size)
        have HCB : Hid (chgB ss a b (i, j, x) = !(sameB ss a b (i, j, x))) := Lib.hid (by unfold chgB; rw [show decide (((i, j, x) : Nat × Nat × It).1 = a ∧ ((i, j, x) : Nat × Nat × It).2.1 = b) = false from decide_eq_false (fun h => HNJ.out h.1)]; rfl)
        obtain ⟨q, hq⟩ : ∃ q, sameB ss a b (i, j, x) = q := ⟨_, rfl⟩
        rw [hq]
        have HQ := Lib.hid hq
        clear hb6 hq g4 h4 a0 a1 b0 b1 r0 r1
        cases q
        · have HE : Hid (filtL (chgB ss a b) ((placed 0 ss).take (k + 1)) = filtL (chgB ss a b) ((placed 0 ss).take k) ++ [((i : Int), (j : Int))]) := Lib.hid (by rw [HST.out, HCB.out, HQ.out]; rfl)
          obtain ⟨v', w7, hrun, hown', hgrow, hbl⟩ := append_place_at HP5.out.1.row (i : Int) (j : Int) hsl HSZ5.out 46
          have HP7 : Hid (ItemsAt w w7 oa cap ss.length w4.heap.size v' _ (filtL (chgB ss a b) ((placed 0 ss).take (k + 1))) (plsAll (placed 0 ss)) ∧ Row w7 (w.heap.size + 1) 34 [.int .i64 (a : Int), .int .i64 (b : Int)] ∧ Row w7 w3.heap.size 30 [.slice oh (rmvP ss a b).length ch] ∧ some (w.heap.size + 1) ≠ v'.ownBlock ∧ OwnGr w7 w.heap.size (.slice oh (rmvP ss a b).length ch) (rmvP ss a b) hs) := Lib.hid
            ⟨by rw [HE.out]; exact HP5.out.1.snoc hown' hgrow hbl, (HP5.out.2.1.alloc _).grown hgrow HP5.out.2.2.2.1, (HP5.out.2.2.1.alloc _).grown hgrow (ownsRow_ne2 HP5.out.2.2.1 (by decide) HP5.out.1.row), (by
              rcases hbl with h | h
              · rw [h]; exact HP5.out.2.2.2.1
              · rw [h]; intro e; have h1 := Option.some.inj e; have h2 := HP5.out.2.1.lt; omega), HP5.out.2.2.2.2.pushed HP5.out.1.row hgrow⟩
          have HRUN := Lib.hid hrun
          clear hown' hgrow hbl hrun
          go_wp2_with (at_builtin; refine wpList_append_run rfl _ _ 46 rfl HRUN.out ?_)
          go_wp2
          go_roundw
          case rel => exact ⟨k + 1, by go_num, by omega, HP7⟩
          case measure => simp only [intOf]; omega
        · have HE : Hid (filtL (chgB ss a b) ((placed 0 ss).take (k + 1)) = filtL (chgB ss a b) ((placed 0 ss).take k)) := Lib.hid (by rw [HST.out, HCB.out, HQ.out]; simp)
          go_wp2
          go_roundw
          case rel => exact ⟨k + 1, by go_num, by omega, by rw [HE.out]; exact HP5⟩
          case measure => simp only [intOf]; omega
    · obtain rfl : k = (plsAll (placed 0 ss)).length := by omega
      have HE : Hid ((placed 0 ss).take (plsAll (placed 0 ss)).length = placed 0 ss) := Lib.hid (by rw [HLN.out, List.take_length])
      go_wp2
      go_ret
      exact ⟨_, rfl, by have := hP.out.1.row; rw [HE.out] at this; exact this, hP.out.1.below⟩
end Go.Proofs.YtadpgoiiopfnnaaDoor
namespace Go.Proofs.YtadpgoiiopfnnaaDoor
open Go Go.RowKit
/-- What items mean something else when the item at a place is removed. -/
def chgPI (ss : List Sc) (a b : Int) : List (Int × Int) := chgP ss a.toNat b.toNat
theorem chgPI_nat (ss : List Sc) (i j : Nat) : chgPI ss (i : Int) (j : Int) = chgP ss i j := by unfold chgPI; rw [Int.toNat_natCast, Int.toNat_natCast]
set_option maxRecDepth 100000 in
set_option maxHeartbeats 4000000 in
theorem specChangedBy_any (ss : List Sc) (hF : Fair ss) (oa : Option Addr) (cap : Nat) (a b : Int) (w : World) (hc : HoldsScopes w oa ss) :
    Calls Tryd.prog 30 #[.agg #[.slice oa ss.length cap], .agg #[.int .i64 a, .int .i64 b]] w (PlGot2 (itemHas ss a b) (chgPI ss a b) w) := by
  have hb0 : Below w.heap.size w ((w.alloc (.cells #[.slice oa ss.length cap] 30)).alloc (.cells #[.int .i64 a, .int .i64 b] 34)) := ((Below.refl _ _).alloc (Nat.le_refl _) _).alloc (by simp) _
  have R1 := (Row.new w [.slice oa ss.length cap] 30).alloc (.cells #[.int .i64 a, .int .i64 b] 34)
  have R2 := Row.new (w.alloc (.cells #[.slice oa ss.length cap] 30)) [.int .i64 a, .int .i64 b] 34
  rw [World.size_alloc] at R2
  have C := Lib.hid (specValid_any ss oa cap _ hF.fits (hc.below hb0 (Nat.le_refl _)))
  have HB := Lib.hid hb0
  have HR1 := Lib.hid R1
  have HR2 := Lib.hid R2
  have HF := Lib.hid hF
  have HC := Lib.hid hc
  have g1 := R1.cell (i := 0) (by rfl)
  clear hF hc hb0 R1 R2
  go_enter Tryd.func30, Tryd.ntmps30
  go_wp2_with fail
  refine C.out.mono ?_
  rintro e w1 ⟨q, rfl, hv, hb1⟩
  have HB1 := Lib.hid (HB.out.trans (hb1.mono HB.out.size))
  have HR1a := Lib.hid (HR1.out.below hb1 HR1.out.lt)
  have HR2a := Lib.hid (HR2.out.below hb1 HR2.out.lt)
  have HV := Lib.hid hv
  have g2 := HR1a.out.cell (i := 0) (v := .slice oa ss.length cap) (by rfl)
  have q0 := HR2a.out.cell (i := 0) (v := .int .i64 a) (by rfl)
  have q1 := HR2a.out.cell (i := 1) (v := .int .i64 b) (by rfl)
  clear hb1 hv g1
  cases q
  · have HN : Hid (¬ itemHas ss a b) := Lib.hid (fun h => by have := HV.out.2 h.1; cases this)
    go_wp2
    go_ret2
    exact .inl ⟨HN.out, _, rfl, HB1.out.alloc HB1.out.size _⟩
  · have HVV := Lib.hid (HV.out.1 rfl)
    have C2 := Lib.hid (specHas_any ss HF.out.fits oa cap a b _ (HC.out.below HB1.out (Nat.le_refl _)))
    go_wp2_with fail
    refine C2.out.mono ?_
    rintro e w2 ⟨rfl, hb2⟩
    have HB2 := Lib.hid (HB1.out.trans (hb2.mono HB1.out.size))
    have g3 := (HR1a.out.below hb2 HR1a.out.lt).cell (i := 0) (v := .slice oa ss.length cap) (by rfl)
    have t0 := (HR2a.out.below hb2 HR2a.out.lt).cell (i := 0) (v := .int .i64 a) (by rfl)
    have t1 := (HR2a.out.below hb2 HR2a.out.lt).cell (i := 1) (v := .int .i64 b) (by rfl)
    clear hb2 g2 q0 q1
    have hcase : itemAtP ss a b = none ∨ ∃ x, itemAtP ss a b = some x := by cases itemAtP ss a b <;> simp
    rcases hcase with hx | ⟨x, hx⟩
    · have HN : Hid (¬ itemHas ss a b) := Lib.hid (fun h => by have := h.2; rw [hx] at this; cases this)
      rw [hx]
      clear hx
      simp only [Option.isSome_none]
      go_wp2
      go_ret2
      exact .inl ⟨HN.out, _, rfl, HB2.out.alloc HB2.out.size _⟩
    · have HH : Hid (itemHas ss a b) := Lib.hid ⟨HVV.out, by rw [hx]; rfl⟩
      rw [hx]
      obtain ⟨i, j, c, rfl, rfl, hci, hxj⟩ := item_where hx
      have C3 := Lib.hid (l6Changed_any ss HVV.out HF.out oa cap i j hci hxj _ (HC.out.below HB2.out (Nat.le_refl _)))
      clear hx hci hxj
      simp only [Option.isSome_some]
      go_wp2_with fail
      refine C3.out.mono ?_
      rintro e w3 ⟨v, rfl, hown, hb3⟩
      have HO := Lib.hid (And.intro (hown.mono HB2.out.size) (HB2.out.trans (hb3.mono HB2.out.size)))
      clear hown hb3
      go_wp2
      go_ret2
      exact .inr ⟨HH.out, v, rfl, by rw [chgPI_nat]; exact HO.out.1, HO.out.2⟩
/-- A truth that tells whether a list is there and empty. -/
def CanVal2 (ok : Prop) (l : List (Int × Int)) (b : Bool) : Prop := (¬ ok ∧ b = false) ∨ (ok ∧ b = decide (l = []))
theorem CanVal2.same {ok : Prop} {l : List (Int × Int)} {b b' : Bool} (h : CanVal2 ok l b) (k : CanVal2 ok l b') : b = b' := by
  rcases h with ⟨h1, h2⟩ | ⟨h1, h2⟩ <;> rcases k with ⟨k1, k2⟩ | ⟨k1, k2⟩
  · rw [h2, k2]
  · exact absurd k1 h1
  · exact absurd h1 k1
  · rw [h2, k2]
theorem len_zero2 (l : List (Int × Int)) : ((l.length : Int) == 0) = decide (l = []) := by
  cases l with
  | nil => rfl
  | cons a r => simp; omega
/-- A place told to stand behind a removal. -/
theorem told_rmv {a b i j x y : Int} {ok : Bool} (h : (x, y, ok) = paV i j a b) : StTold (stRmv a b) (i, j) x y ok := by
  unfold paV at h
  unfold StTold stRmv
  dsimp only
  split at h
  · rename_i h1
    simp only [Prod.mk.injEq] at h
    exact .inr ⟨h.2.2, if_pos ⟨h1.1, h1.2⟩⟩
  · rename_i h1
    simp only [Prod.mk.injEq] at h
    refine .inl ⟨h.2.2, ?_⟩
    rw [if_neg (fun e => h1 ⟨e.1, e.2⟩), aftI_B]
    dsimp only
    rw [h.1, h.2.1]
set_option maxRecDepth 100000 in
theorem chg1_any (P : Nat) (a b i j : Int) (hb : -9223372036854775808 ≤ b ∧ b ≤ 9223372036854775807) (hj : -9223372036854775808 ≤ j ∧ j ≤ 9223372036854775807) (W : World) (hP : Row W P 34 [.int .i64 a, .int .i64 b]) :
    Calls Tryd.prog 76 #[.agg #[.int .i64 i, .int .i64 j], .pointer (some ⟨P, 0, none⟩)] W (PaGot i j a b W) := by
  have hb0 : Below W.heap.size W ((W.alloc (.cells #[.int .i64 i, .int .i64 j] 34)).alloc (.cells #[.int .i64 0, .int .i64 0] 34)) := ((Below.refl _ _).alloc (Nat.le_refl _) _).alloc (by simp) _
  have R1 := (Row.new W [.int .i64 i, .int .i64 j] 34).alloc (.cells #[.int .i64 0, .int .i64 0] 34)
  have R2 := Row.new (W.alloc (.cells #[.int .i64 i, .int .i64 j] 34)) [.int .i64 0, .int .i64 0] 34
  rw [World.size_alloc] at R2
  have RP := hP.below hb0 hP.lt
  have C := Lib.hid (implPlaceAfter_any i j a b hj hb ((W.alloc (.cells #[.int .i64 i, .int .i64 j] 34)).alloc (.cells #[.int .i64 0, .int .i64 0] 34)))
  have HR := Lib.hid R2
  have HB := Lib.hid hb0
  have p0 := R1.cell (i := 0) (v := .int .i64 i) (by rfl)
  have p1 := R1.cell (i := 1) (v := .int .i64 j) (by rfl)
  have q0 := RP.cell (i := 0) (v := .int .i64 a) (by rfl)
  have q1 := RP.cell (i := 1) (v := .int .i64 b) (by rfl)
  clear R1 R2 RP hb0 hP
  go_enter Tryd.func76, Tryd.ntmps76
  go_wp2_with fail
  refine C.out.mono ?_
  rintro e w1 ⟨x, y, ok, rfl, hv, hb1⟩
  have HB1 := Lib.hid (HB.out.trans (hb1.mono HB.out.size))
  have HR1 := Lib.hid (HR.out.below hb1 HR.out.lt)
  have m0 := HR1.out.cell (i := 0) (v := .int .i64 0) (by rfl)
  have m1 := HR1.out.cell (i := 1) (v := .int .i64 0) (by rfl)
  have f0 := HR1.out.frozen 0
  have f1 := HR1.out.frozen 1
  have HV := Lib.hid hv
  clear hb1 hv p0 p1 q0 q1
  go_wp2
  have RT := (HR1.out.set 0 (.int .i64 x)).set 1 (.int .i64 y)
  have d0 := RT.cell (i := 0) (v := .int .i64 x) (by rfl)
  have d1 := RT.cell (i := 1) (v := .int .i64 y) (by rfl)
  refine bodyPost_ret (v := .tuple #[.agg #[.int .i64 x, .int .i64 y], .bool ok]) (by simp [results, Tryd.results76, go_sem, d0, d1]) rfl ⟨x, y, ok, rfl, HV.out, (HB1.out.setCell (by simp) _).setCell (by simp) _⟩
theorem stands_rmv {w : World} {P : Nat} {a b : Int} (hb : -9223372036854775808 ≤ b ∧ b ≤ 9223372036854775807) (hP : Row w P 34 [.int .i64 a, .int .i64 b]) : StandsOk w (.func (.func 76) #[] #[.pointer (some ⟨P, 0, none⟩)]) (stRmv a b) :=
  ⟨_, #[.pointer (some ⟨P, 0, none⟩)], rfl, enters_of Tryd.func76 (by kernel_rfl) rfl, fun i j W hi hj hW => (chg1_any P a b (i : Int) (j : Int) hb ⟨by omega, by omega⟩ W (hP.below hW hP.lt)).mono fun _ _ h => by
    obtain ⟨x, y, ok, h1, h2, h3⟩ := h
    exact ⟨x, y, ok, h1, told_rmv h2, h3⟩⟩
theorem stands_in_rmv {ss : List Sc} {a b : Nat} : StandsIn ss (rmvP ss a b) (stRmv (a : Int) (b : Int)) := by
  rintro ⟨i, j, x⟩ hq p hp
  unfold stRmv plOf at hp
  dsimp only at hp
  split at hp
  · cases hp
  · rename_i h1
    obtain rfl := Option.some.inj hp
    rw [aftI_nat]
    exact ⟨i, aftN a b i j, x, rfl, placed_rmv hq (fun e => h1 ⟨by rw [e.1], by rw [e.2]⟩)⟩
set_option maxRecDepth 100000 in
set_option maxHeartbeats 4000000 in
theorem implChangedBy_any (ss : List Sc) (hF : Fair ss) (oa : Option Addr) (cap : Nat) (a b : Int) (ha : (Lit.int .i64 a).wf = true) (hb' : (Lit.int .i64 b).wf = true) (w : World) (hc : HoldsScopes w oa ss) (hE : TreeErrs w) :
    Calls Tryd.prog 31 #[.agg #[.slice oa ss.length cap], .agg #[.int .i64 a, .int .i64 b]] w (PlGot (itemHas ss a b) (chgPI ss a b) w) := by
  have hb0 : Below w.heap.size w ((w.alloc (.cells #[.slice oa ss.length cap] 30)).alloc (.cells #[.int .i64 a, .int .i64 b] 34)) := ((Below.refl _ _).alloc (Nat.le_refl _) _).alloc (by simp) _
  have R1 := (Row.new w [.slice oa ss.length cap] 30).alloc (.cells #[.int .i64 a, .int .i64 b] 34)
  have R2 := Row.new (w.alloc (.cells #[.slice oa ss.length cap] 30)) [.int .i64 a, .int .i64 b] 34
  rw [World.size_alloc] at R2
  have C := Lib.hid (implRemoveItem_any ss hF oa cap a b ha hb' _ (hc.below hb0 (Nat.le_refl _)) (hE.below hb0 hE.size))
  have HB := Lib.hid hb0
  have HR1 := Lib.hid R1
  have HR2 := Lib.hid R2
  have HF := Lib.hid hF
  have HC := Lib.hid hc
  have HE := Lib.hid hE
  have g1 := R1.cell (i := 0) (by rfl)
  have q0 := R2.cell (i := 0) (v := .int .i64 a) (by rfl)
  have q1 := R2.cell (i := 1) (v := .int .i64 b) (by rfl)
  clear hF hc hb0 R1 R2 hE ha hb'
  go_enter Tryd.func31, Tryd.ntmps31
  go_wp2_with fail
  refine C.out.mono ?_
  rintro e w1 (⟨hn, v, hs, rfl, hO, hb1⟩ | ⟨hh, v, hs, rfl, hO, hb1⟩)
  · obtain ⟨ov, cv, rfl, -⟩ := hO.holds
    have HN := Lib.hid hn
    have hbx := hb1.trans (((Below.refl w1.heap.size w1).alloc (Nat.le_refl _) (.cells #[.slice ov ([] : List Sc).length cv] 30)).mono hb1.size)
    have HB1 := Lib.hid (HB.out.trans (hbx.mono HB.out.size))
    clear hn hb1 hbx hO g1 q0 q1
    go_wp2
    go_ret2
    exact .inl ⟨HN.out, rfl, HB1.out⟩
  · have hcase : ∃ x, itemAtP ss a b = some x := by have h2 := hh.2; cases hx : itemAtP ss a b with
      | none => rw [hx] at h2; cases h2
      | some x => exact ⟨x, rfl⟩
    obtain ⟨x, hx⟩ := hcase
    obtain ⟨i, j, c, rfl, rfl, hci, hxj⟩ := item_where hx
    rw [rmvAt_nat] at hO
    obtain ⟨ov, cv, rfl, -⟩ := hO.holds
    have hbN := (Below.refl w1.heap.size w1).alloc (Nat.le_refl _) (.cells #[.slice ov (rmvP ss i j).length cv] 30)
    have hbx := hb1.trans (hbN.mono hb1.size)
    have HB1 := Lib.hid (HB.out.trans (hbx.mono HB.out.size))
    have a0 := (Row.new w1 [.slice ov (rmvP ss i j).length cv] 30).cell (i := 0) (v := .slice ov (rmvP ss i j).length cv) (by rfl)
    have gx := (HR1.out.below hbx HR1.out.lt).cell (i := 0) (v := .slice oa ss.length cap) (by rfl)
    have RPX := HR2.out.below hbx HR2.out.lt
    have hj : -9223372036854775808 ≤ (j : Int) ∧ (j : Int) ≤ 9223372036854775807 := ⟨by omega, by have h1 := (List.getElem?_eq_some_iff.1 hxj).1; have h2 := hh.1.five c (List.mem_of_getElem? hci); omega⟩
    have C2 := Lib.hid (between_any ss (rmvP ss i j) hh.1 (Valid.rmv hh.1 i j) HF.out (HF.out.rmv i j) oa ov cap cv (.func (.func 76) #[] #[.pointer (some ⟨w.heap.size + 1, 0, none⟩)]) (stRmv (i : Int) (j : Int)) stands_in_rmv _ (HC.out.below HB1.out (Nat.le_refl _)) (hO.below hbN).holdsAt6 (HE.out.below HB1.out HE.out.size) (stands_rmv hj RPX))
    have HH := Lib.hid hh
    clear hh hx hci hxj hO hbN hb1 hbx RPX g1 q0 q1 hj
    go_wp2_with fail
    refine C2.out.mono ?_
    rintro e w2 ⟨v5, rfl, hown, hb5⟩
    rw [chgG_rmv] at hown
    have HO := Lib.hid (And.intro (hown.mono HB1.out.size) (HB1.out.trans (hb5.mono HB1.out.size)))
    clear hown hb5
    go_wp2
    go_ret2
    exact .inr ⟨HH.out, v5, rfl, by rw [chgPI_nat]; exact HO.out.1, HO.out.2⟩
set_option maxRecDepth 100000 in
set_option maxHeartbeats 4000000 in
theorem specCanRemove_any (ss : List Sc) (hF : Fair ss) (oa : Option Addr) (cap : Nat) (a b : Int) (w : World) (hc : HoldsScopes w oa ss) :
    Calls Tryd.prog 39 #[.agg #[.slice oa ss.length cap], .agg #[.int .i64 a, .int .i64 b]] w fun e w' => ∃ q, e = .returned (.bool q) ∧ CanVal2 (itemHas ss a b) (chgPI ss a b) q ∧ Below w.heap.size w w' := by
  have hb0 : Below w.heap.size w ((w.alloc (.cells #[.slice oa ss.length cap] 30)).alloc (.cells #[.int .i64 a, .int .i64 b] 34)) := ((Below.refl _ _).alloc (Nat.le_refl _) _).alloc (by simp) _
  have R1 := (Row.new w [.slice oa ss.length cap] 30).alloc (.cells #[.int .i64 a, .int .i64 b] 34)
  have R2 := Row.new (w.alloc (.cells #[.slice oa ss.length cap] 30)) [.int .i64 a, .int .i64 b] 34
  rw [World.size_alloc] at R2
  have C := Lib.hid (specChangedBy_any ss hF oa cap a b _ (hc.below hb0 (Nat.le_refl _)))
  have HB := Lib.hid hb0
  have g1 := R1.cell (i := 0) (by rfl)
  have q0 := R2.cell (i := 0) (v := .int .i64 a) (by rfl)
  have q1 := R2.cell (i := 1) (v := .int .i64 b) (by rfl)
  clear hF hc hb0 R1 R2
  go_enter Tryd.func39, Tryd.ntmps39
  go_wp2_with fail
  refine C.out.mono ?_
  rintro e w1 (⟨hn, g, rfl, hb⟩ | ⟨hok, v, rfl, hown, hb⟩)
  · have HN := Lib.hid (And.intro hn (HB.out.trans (hb.mono HB.out.size)))
    clear hn hb
    go_wp2
    go_ret
    exact ⟨false, rfl, .inl ⟨HN.out.1, rfl⟩, HN.out.2⟩
  · obtain ⟨ov, cv, rfl⟩ := ownsRow_slice hown
    obtain ⟨q, hq⟩ : ∃ q, ((((chgPI ss a b).length : Nat) : Int) == 0) = q := ⟨_, rfl⟩
    have HN := Lib.hid (And.intro hok (And.intro (hq.symm.trans (len_zero2 _)) (HB.out.trans (hb.mono HB.out.size))))
    clear hok hown hb
    cases q
    all_goals go_wp2
    all_goals go_ret
    all_goals exact ⟨_, rfl, .inr ⟨HN.out.1, HN.out.2.1⟩, HN.out.2.2⟩
set_option maxRecDepth 100000 in
set_option maxHeartbeats 4000000 in
theorem implCanRemove_any (ss : List Sc) (hF : Fair ss) (oa : Option Addr) (cap : Nat) (a b : Int) (ha : (Lit.int .i64 a).wf = true) (hb' : (Lit.int .i64 b).wf = true) (w : World) (hc : HoldsScopes w oa ss) (hE : TreeErrs w) :
    Calls Tryd.prog 40 #[.agg #[.slice oa ss.length cap], .agg #[.int .i64 a, .int .i64 b]] w fun e w' => ∃ q, e = .returned (.bool q) ∧ CanVal2 (itemHas ss a b) (chgPI ss a b) q ∧ Below w.heap.size w w' := by
  have hb0 : Below w.heap.size w ((w.alloc (.cells #[.slice oa ss.length cap] 30)).alloc (.cells #[.int .i64 a, .int .i64 b] 34)) := ((Below.refl _ _).alloc (Nat.le_refl _) _).alloc (by simp) _
  have R1 := (Row.new w [.slice oa ss.length cap] 30).alloc (.cells #[.int .i64 a, .int .i64 b] 34)
  have R2 := Row.new (w.alloc (.cells #[.slice oa ss.length cap] 30)) [.int .i64 a, .int .i64 b] 34
  rw [World.size_alloc] at R2
  have C := Lib.hid (implChangedBy_any ss hF oa cap a b ha hb' _ (hc.below hb0 (Nat.le_refl _)) (hE.below hb0 hE.size))
  have HB := Lib.hid hb0
  have g1 := R1.cell (i := 0) (by rfl)
  have q0 := R2.cell (i := 0) (v := .int .i64 a) (by rfl)
  have q1 := R2.cell (i := 1) (v := .int .i64 b) (by rfl)
  clear hF hc hb0 R1 R2 hE ha hb'
  go_enter Tryd.func40, Tryd.ntmps40
  go_wp2_with fail
  refine C.out.mono ?_
  rintro e w1 (⟨hn, rfl, hb⟩ | ⟨hok, v, rfl, hown, hb⟩)
  · have HN := Lib.hid (And.intro hn (HB.out.trans (hb.mono HB.out.size)))
    clear hn hb
    go_wp2
    go_ret
    exact ⟨false, rfl, .inl ⟨HN.out.1, rfl⟩, HN.out.2⟩
  · obtain ⟨ov, cv, rfl⟩ := ownsRow_slice hown
    obtain ⟨q, hq⟩ : ∃ q, ((((chgPI ss a b).length : Nat) : Int) == 0) = q := ⟨_, rfl⟩
    have HN := Lib.hid (And.intro hok (And.intro (hq.symm.trans (len_zero2 _)) (HB.out.trans (hb.mono HB.out.size))))
    clear hok hown hb
    cases q
    all_goals go_wp2
    all_goals go_ret
    all_goals exact ⟨_, rfl, .inr ⟨HN.out.1, HN.out.2.1⟩, HN.out.2.2⟩
end Go.Proofs.YtadpgoiiopfnnaaDoor
