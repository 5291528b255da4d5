/-
  The walks of impl's (*resolution).state, ResolveItem and StateOf. Conditions: the argument's memory holds the graph; the package-level errors hold errors. The walks of impl's ItemsIn and IsSound. Conditions: the argument's memory holds the graph; the package-level errors hold errors. The walks of the given l4Resolve, ResolveItem and StateOf. Condition: the argument's memory holds the graph. The walks of the given l4Items, ItemsIn and IsSound. Conditions: the argument's memory holds the graph; it has at most 2^20 items. The walks of the laws' sgPlaces and sgSame. Condition: the arguments' memory holds the lists. A law's argument of bytes opened. The walk of the law FnItemsIn, and of the given DrawItemsIn: at every argument the law returns true, and only new memory is written. Conditions: the argument's memory holds bytes; the package-level errors hold errors.
-/
import Derived.Test.YtppgdigcopkeiaaDoorWRes
import Derived.Test.YtppgdigcopkeiaaDoorWImpTarget
import Derived.Test.YtppgdigcopkeiaaDoorWSpecLook
import Derived.Test.YtppgdigcopkeiaaDoorWMarksP
import Derived.Test.YtppgdigcopkeiaaDoorWSpecPls
import Derived.Test.YtppgdigcopkeiaaDoorWFrom
import Derived.Test.YtppgdigcopkeiaaDoorWDrawAll
import Derived.ChangeSame
import Derived.ProofKit
import Derived.OpenShut
import Derived.Test.YtppgdigcopkeiaaDoorLawPls
import Derived.Test.YtppgdigcopkeiaaDoorWDraws2
import Derived.Test.YtppgdigcopkeiaaDoorRegionRound
namespace Go.Proofs.YtppgdigcopkeiaaDoor
open Go Go.RowKit Go.Maps
attribute [local go_sem ↓] field_kind field_name field_scope field_places
/-- What the meanings answer at an item's place. -/
theorem mean_at {w : World} {B MR : Nat} {ss : List Sc} {l : List Ent} (hv : Valid ss) (h : MeanW w B MR ss l) (hf : l.map Prod.fst = placed 0 ss) {i j : Nat} {x : It} (hq : (i, j, x) ∈ placed 0 ss) :
    ∃ u, (Instr.lookup 89 (.map (some MR)) (.agg #[.int .i64 (i : Int), .int .i64 (j : Int)]) true).run Tryd.prog w = .ok (.tuple #[u, .bool true]) w ∧
      (Instr.lookup 89 (.map (some MR)) (.agg #[.int .i64 (i : Int), .int .i64 (j : Int)]) false).run Tryd.prog w = .ok u w ∧ w.ownsRow B 34 2 u (meanIt ss (i, j, x)).length (placeCells (meanIt ss (i, j, x))) := by
  have hlt := hv.small.lt hq
  have hx := placed_item hq
  dsimp only at hx hlt
  obtain ⟨u, h1, h2, h3⟩ := mean_look hv h hf (wf_small hlt.1) (wf_small hlt.2)
  rw [hx] at h1
  rcases h3 with ⟨h4, _⟩ | ⟨i', j', y, hi, hj, hy, _, h5⟩
  · rw [hx] at h4; cases h4
  · obtain rfl : i = i' := by omega
    obtain rfl : j = j' := by omega
    rw [hx] at hy
    cases hy
    exact ⟨u, h1, h2, h5⟩
set_option maxRecDepth 100000 in
set_option maxHeartbeats 4000000 in
theorem state_any {ss : List Sc} (hv : Valid ss) {w : World} {B R T M1 M2 MR : Nat} {v : Value} {ds : List Nd} {l : List Ent} (hR : ResW w B R T M1 M2 MR v ds ss l) {i j : Nat} {x : It} (hq : (i, j, x) ∈ placed 0 ss) :
    Calls Tryd.prog 119 #[.pointer (some ⟨R, 0, none⟩), .agg #[.int .i64 (i : Int), .int .i64 (j : Int)], .agg #[.int .i64 x.kind, .string x.name, .int .i64 x.scope]] w fun e w' => e = .returned (.int .i64 (stateIt ss (i, j, x))) ∧ Below w.heap.size w w' := by
  have hb0 : Below w.heap.size w ((w.alloc (.cells #[.int .i64 (i : Int), .int .i64 (j : Int)] 34)).alloc (.cells #[.int .i64 x.kind, .string x.name, .int .i64 x.scope] 60)).drew := (((Below.refl _ _).alloc (Nat.le_refl _) _).alloc (by simp) _).drew
  have HR1 := Lib.hid (hR.below hb0)
  have HB0 := Lib.hid hb0
  have p0 := cell_drew (((Row.new w [.int .i64 (i : Int), .int .i64 (j : Int)] 34).alloc (.cells #[.int .i64 x.kind, .string x.name, .int .i64 x.scope] 60)).cell (i := 0) (by rfl))
  have p1 := cell_drew (((Row.new w [.int .i64 (i : Int), .int .i64 (j : Int)] 34).alloc (.cells #[.int .i64 x.kind, .string x.name, .int .i64 x.scope] 60)).cell (i := 1) (by rfl))
  have hX := Row.new (w.alloc (.cells #[.int .i64 (i : Int), .int .i64 (j : Int)] 34)) [.int .i64 x.kind, .string x.name, .int .i64 x.scope] 60
  rw [World.size_alloc] at hX
  have x0 := cell_drew (hX.cell (i := 0) (by rfl))
  have r1 := HR1.out.box.cell (i := 1) (by rfl)
  have r0 := HR1.out.box.cell (i := 0) (by rfl)
  obtain ⟨u, -, hrun, hown⟩ := mean_at hv HR1.out.mean HR1.out.full hq
  obtain ⟨ou, cu, rfl, harg⟩ := argPlaces_of_owns hown
  have C := Lib.hid (moduleAlone_any (cap := cu) hv HR1.out.tree (by have := meanIt_length hv (i, j, x); omega) (meanIt_isPlace hq) harg)
  have HST : Hid (stateIt ss (i, j, x) = if (meanIt ss (i, j, x)).length = 0 then 2 else if 1 < (meanIt ss (i, j, x)).length then 3 else if x.kind = 3 ∧ aloneP ss (meanIt ss (i, j, x)) = -1 then 4 else 1) := Lib.hid rfl
  clear hb0 hR hX hown harg
  generalize meanIt ss (i, j, x) = ml at *
  by_cases h0 : ml.length = 0
  · have HE : Hid (stateIt ss (i, j, x) = 2) := Lib.hid (by rw [HST.out, if_pos h0])
    have k0 : ((ml.length : Int) == 0) = true := by rw [h0]; rfl
    clear h0 hv hq
    go_enter Tryd.func119, Tryd.ntmps119
    go_wp2
    go_region
    all_goals go_wp2
    all_goals go_ret
    all_goals exact ⟨by rw [HE.out]; rfl, HB0.out⟩
  · have k0 : ((ml.length : Int) == 0) = false := beq_eq_false_iff_ne.2 (by omega)
    by_cases h1 : 1 < ml.length
    · have HE : Hid (stateIt ss (i, j, x) = 3) := Lib.hid (by rw [HST.out, if_neg h0, if_pos h1])
      have k1 : (1 : Int) < (ml.length : Int) := by omega
      clear h0 h1 hv hq
      go_enter Tryd.func119, Tryd.ntmps119
      go_wp2
      go_region
      all_goals go_wp2
      all_goals go_ret
      all_goals exact ⟨by rw [HE.out]; rfl, HB0.out⟩
    · have k1 : ¬ (1 : Int) < (ml.length : Int) := by omega
      by_cases hk : x.kind = 3
      · have hq3 : (x.kind == 3) = true := by simpa using hk
        by_cases ha : aloneP ss ml = -1
        · have HE : Hid (stateIt ss (i, j, x) = 4) := Lib.hid (by rw [HST.out, if_neg h0, if_neg h1, if_pos ⟨hk, ha⟩])
          rw [ha] at C
          clear h0 h1 hv hq hk ha
          go_enter Tryd.func119, Tryd.ntmps119
          go_wp2
          go_region
          go_wp2_with fail
          refine C.out.mono ?_
          rintro e w3 ⟨rfl, hb3⟩
          have HB3 := Lib.hid (HB0.out.trans (hb3.mono HB0.out.size))
          clear hb3
          go_wp2
          go_ret
          exact ⟨by rw [HE.out]; rfl, HB3.out⟩
        · have HE : Hid (stateIt ss (i, j, x) = 1) := Lib.hid (by rw [HST.out, if_neg h0, if_neg h1, if_neg (fun h => ha h.2)])
          have ka : (aloneP ss ml == -1) = false := by simpa using ha
          clear h0 h1 hv hq hk ha
          go_enter Tryd.func119, Tryd.ntmps119
          go_wp2
          go_region
          go_wp2_with fail
          refine C.out.mono ?_
          rintro e w3 ⟨rfl, hb3⟩
          have HB3 := Lib.hid (HB0.out.trans (hb3.mono HB0.out.size))
          clear hb3
          go_wp2
          go_ret
          exact ⟨by rw [HE.out]; rfl, HB3.out⟩
      · have hq3 : (x.kind == 3) = false := by simpa using hk
        have HE : Hid (stateIt ss (i, j, x) = 1) := Lib.hid (by rw [HST.out, if_neg h0, if_neg h1, if_neg (fun h => hk h.1)])
        clear h0 h1 hv hq hk
        go_enter Tryd.func119, Tryd.ntmps119
        go_wp2
        go_region
        all_goals go_wp2
        all_goals go_ret
        all_goals exact ⟨by rw [HE.out]; rfl, HB0.out⟩
/-- There is an item; what it means. -/
def itemHas (ss : List Sc) (a b : Int) : Prop := Valid ss ∧ (itemAtP ss a b).isSome = true
def meanAt (ss : List Sc) (a b : Int) : List (Int × Int) := match itemAtP ss a b with
  | none => []
  | some x => meanIt ss (a.toNat, b.toNat, x)
theorem meanAt_of {ss : List Sc} {i j : Nat} {x : It} (h : (i, j, x) ∈ placed 0 ss) : meanAt ss (i : Int) (j : Int) = meanIt ss (i, j, x) := by
  have := placed_item h
  dsimp only at this
  unfold meanAt
  rw [this]
  rfl
theorem itemHas_of {ss : List Sc} (hv : Valid ss) {i j : Nat} {x : It} (h : (i, j, x) ∈ placed 0 ss) : itemHas ss (i : Int) (j : Int) := by
  have := placed_item h
  dsimp only at this
  exact ⟨hv, by rw [this]; rfl⟩
/-- What StateOf answers. -/
def StVal (ss : List Sc) (a b z : Int) : Prop := (Valid ss ∧ ∃ i j x, a = (i : Nat) ∧ b = (j : Nat) ∧ (i, j, x) ∈ placed 0 ss ∧ z = stateIt ss (i, j, x)) ∨ (¬ itemHas ss a b ∧ z = 0)
theorem StVal.same {ss : List Sc} {a b z z' : Int} (h : StVal ss a b z) (k : StVal ss a b z') : z = z' := by
  rcases h with ⟨hv, i, j, x, rfl, rfl, hx, rfl⟩ | ⟨hn, rfl⟩
  · rcases k with ⟨_, i', j', y, hi, hj, hy, rfl⟩ | ⟨kn, _⟩
    · obtain rfl : i = i' := by omega
      obtain rfl : j = j' := by omega
      have h1 := placed_item hx
      have h2 := placed_item hy
      dsimp only at h1 h2
      rw [h1] at h2
      cases h2
      rfl
    · exact absurd (itemHas_of hv hx) kn
  · rcases k with ⟨kv, i', j', y, rfl, rfl, hy, _⟩ | ⟨_, rfl⟩
    · exact absurd (itemHas_of kv hy) hn
    · rfl
def StGot (ss : List Sc) (a b : Int) (w : World) (e : Ending) (w' : World) : Prop := ∃ z, e = .returned (.int .i64 z) ∧ StVal ss a b z ∧ Below w.heap.size w w'
set_option maxRecDepth 100000 in
set_option maxHeartbeats 4000000 in
theorem implResolveItem_any (ss : List Sc) (hF : Fair ss) (oa : Option Addr) (cap : Nat) (a b : Int) (ha : (Lit.int .i64 a).wf = true) (hb' : (Lit.int .i64 b).wf = true) (w : World) (hc : HoldsScopes w oa ss) (hE : TreeErrs w) :
    Calls Tryd.prog 60 #[.agg #[.slice oa ss.length cap], .agg #[.int .i64 a, .int .i64 b]] w (PlGot (itemHas ss a b) (meanAt ss a b) w) := by
  have hb0 : Below w.heap.size w ((w.alloc (.cells #[.slice oa ss.length cap] 30)).alloc (.cells #[.int .i64 a, .int .i64 b] 34)) := ((Below.refl _ _).alloc (Nat.le_refl _) _).alloc (by simp) _
  have C := Lib.hid (resolutionOf_any ss hF oa cap _ (hc.below hb0 (Nat.le_refl _)) (hE.below hb0 hE.size))
  have RP : Hid (Row ((w.alloc (.cells #[.slice oa ss.length cap] 30)).alloc (.cells #[.int .i64 a, .int .i64 b] 34)) (w.heap.size + 1) 34 [.int .i64 a, .int .i64 b]) := Lib.hid (by
    have := Row.new (w.alloc (.cells #[.slice oa ss.length cap] 30)) [.int .i64 a, .int .i64 b] 34
    rw [World.size_alloc] at this
    exact this)
  have HB0 := Lib.hid hb0
  have HWF := Lib.hid (And.intro ha hb')
  clear hF hc hE hb0 ha hb'
  go_enter Tryd.func60, Tryd.ntmps60
  go_wp2_with fail
  refine C.out.mono ?_
  rintro e w1 (⟨hv, ⟨tp, p, rfl⟩, hb⟩ | ⟨hv, R, T, M1, M2, MR, v, ds, l, rfl, hb, hR⟩)
  · have HB := Lib.hid (HB0.out.trans (hb.mono HB0.out.size))
    have HN : Hid (¬ itemHas ss a b) := Lib.hid (fun h => hv h.1)
    clear hv hb
    go_wp2
    go_ret2
    exact .inl ⟨HN.out, rfl, HB.out⟩
  · have HB := Lib.hid (HB0.out.trans (hb.mono HB0.out.size))
    have RP1 := Lib.hid (RP.out.below hb RP.out.lt)
    have hRd := hR.below ((Below.refl w1.heap.size w1).drew)
    obtain ⟨u, hrun, -, hcase⟩ := mean_look hv hRd.mean hRd.full HWF.out.1 HWF.out.2
    have r1 := hRd.box.cell (i := 1) (by rfl)
    have p0 := cell_drew (RP1.out.cell (i := 0) (by rfl))
    have p1 := cell_drew (RP1.out.cell (i := 1) (by rfl))
    have HS0 := Lib.hid HB0.out.size
    have HV := Lib.hid hv
    clear hb hR hRd hv
    rcases hcase with ⟨hx, rfl⟩ | ⟨i, j, x, rfl, rfl, hx, hq, hown⟩
    · have HN : Hid (¬ itemHas ss a b) := Lib.hid (fun h => by have := h.2; rw [hx] at this; cases this)
      rw [hx] at hrun
      clear hx
      simp only [Option.isSome_none] at hrun
      go_wp2
      go_region
      all_goals go_wp2
      all_goals go_ret2
      all_goals exact .inl ⟨HN.out, rfl, HB.out.drew⟩
    · have HH := Lib.hid (itemHas_of HV.out hq)
      have HM := Lib.hid (meanAt_of hq)
      have HO := Lib.hid hown
      rw [hx] at hrun
      clear hx hq hown
      simp only [Option.isSome_some] at hrun
      go_wp2
      go_region
      all_goals go_wp2
      all_goals go_ret2
      all_goals exact .inr ⟨HH.out, u, rfl, by rw [HM.out]; exact ownsRow_lower HO.out HS0.out, HB.out.drew⟩
set_option maxRecDepth 100000 in
set_option maxHeartbeats 4000000 in
theorem implStateOf_any (ss : List Sc) (hF : Fair ss) (oa : Option Addr) (cap : Nat) (a b : Int) (ha : (Lit.int .i64 a).wf = true) (hb' : (Lit.int .i64 b).wf = true) (w : World) (hc : HoldsScopes w oa ss) (hE : TreeErrs w) :
    Calls Tryd.prog 62 #[.agg #[.slice oa ss.length cap], .agg #[.int .i64 a, .int .i64 b]] w (StGot ss a b w) := by
  have hb0 : Below w.heap.size w ((w.alloc (.cells #[.slice oa ss.length cap] 30)).alloc (.cells #[.int .i64 a, .int .i64 b] 34)) := ((Below.refl _ _).alloc (Nat.le_refl _) _).alloc (by simp) _
  have C := Lib.hid (resolutionOf_any ss hF oa cap _ (hc.below hb0 (Nat.le_refl _)) (hE.below hb0 hE.size))
  have RP : Hid (Row ((w.alloc (.cells #[.slice oa ss.length cap] 30)).alloc (.cells #[.int .i64 a, .int .i64 b] 34)) (w.heap.size + 1) 34 [.int .i64 a, .int .i64 b]) := Lib.hid (by
    have := Row.new (w.alloc (.cells #[.slice oa ss.length cap] 30)) [.int .i64 a, .int .i64 b] 34
    rw [World.size_alloc] at this
    exact this)
  have HB0 := Lib.hid hb0
  have HWF := Lib.hid (And.intro ha hb')
  clear hF hc hE hb0 ha hb'
  go_enter Tryd.func62, Tryd.ntmps62
  go_wp2_with fail
  refine C.out.mono ?_
  rintro e w1 (⟨hv, ⟨tp, p, rfl⟩, hb⟩ | ⟨hv, R, T, M1, M2, MR, v, ds, l, rfl, hb, hR⟩)
  · have HB := Lib.hid (HB0.out.trans (hb.mono HB0.out.size))
    have HN : Hid (¬ itemHas ss a b) := Lib.hid (fun h => hv h.1)
    clear hv hb
    go_wp2
    go_ret
    exact ⟨_, rfl, .inr ⟨HN.out, rfl⟩, HB.out⟩
  · have HB := Lib.hid (HB0.out.trans (hb.mono HB0.out.size))
    have RP1 := Lib.hid (RP.out.below hb RP.out.lt)
    have HRW1 := Lib.hid hR
    obtain ⟨hhas, hat⟩ := look_item hv.small HWF.out.1 HWF.out.2
    obtain ⟨n1, hm⟩ := hR.tree.items
    obtain ⟨v1, ps, hrun, hv1⟩ := (ownsMap_below hm ((Below.refl _ _).drew)).look_ok (t := 141) (e := 60) placeLaw Tryd.underlying141 (zeroItem _) (itemR_mk zeroIt) (pl_key HWF.out.1 HWF.out.2)
    have hbA := ((Below.refl w1.heap.size w1).alloc (Nat.le_refl _) (.cells #[.int .i64 0, .string ⟨#[]⟩, .int .i64 0] 60)).drew
    obtain ⟨v2, ps2, hrun2, hv2⟩ := (ownsMap_below hm hbA).look_ok (t := 141) (e := 60) placeLaw Tryd.underlying141 (zeroItem _) (itemR_mk zeroIt) (pl_key HWF.out.1 HWF.out.2)
    rw [hat] at hv1 hv2
    obtain rfl := itemR_eq hv1
    obtain rfl := itemR_eq hv2
    rw [hhas] at hrun hrun2
    have T1 := hR.tree.tree.box
    have t1 := T1.cell (i := 1) (by rfl)
    have t1' := (((Below.refl _ _).drew).cell (p := ⟨T, 1, none⟩) T1.lt).trans t1
    have t1A := (hbA.cell (p := ⟨T, 1, none⟩) T1.lt).trans t1
    have r1 := hR.box.cell (i := 0) (by rfl)
    have r1' := cell_drew r1
    have r1A := (hbA.cell (p := ⟨R, 0, none⟩) hR.box.lt).trans r1
    have p0 := RP1.out.cell (i := 0) (by rfl)
    have p1 := RP1.out.cell (i := 1) (by rfl)
    have p0' := cell_drew p0
    have p1' := cell_drew p1
    have p0A := (hbA.cell (p := ⟨w.heap.size + 1, 0, none⟩) RP1.out.lt).trans p0
    have p1A := (hbA.cell (p := ⟨w.heap.size + 1, 1, none⟩) RP1.out.lt).trans p1
    have HV := Lib.hid hv
    clear hb hhas hat hv1 hv2 hR hm hbA T1 hv
    have hcase : itemAtP ss a b = none ∨ ∃ x, itemAtP ss a b = some x := by cases itemAtP ss a b <;> simp
    rcases hcase with hx | ⟨x, hx⟩
    · have HN : Hid (¬ itemHas ss a b) := Lib.hid (fun h => by have := h.2; rw [hx] at this; cases this)
      rw [hx] at hrun hrun2
      simp only [Option.isSome_none, Option.getD_none, itV, zeroIt] at hrun hrun2
      clear hx
      go_wp2
      go_cut [7, 8] (fun s7 s8 wx => s8 = .bool false ∧ Below w1.heap.size w1 wx)
      case first =>
        go_region
        all_goals go_wp2
        all_goals go_meet
        all_goals exact ⟨rfl, ((Below.refl _ _).alloc (Nat.le_refl _) _).drew⟩
      case rest =>
        obtain ⟨rfl, hbc⟩ := hcut
        have HBC := Lib.hid (HB.out.trans (hbc.mono HB.out.size))
        clear hrun hrun2 t1 t1' t1A p0 p1 p0A p1A r1 r1' r1A p0' p1' hbc
        go_wp2
        go_ret
        exact ⟨_, rfl, .inr ⟨HN.out, rfl⟩, HBC.out⟩
    · obtain ⟨i, j, rfl, rfl, hq⟩ := item_placed hx
      have HQ := Lib.hid hq
      rw [hx] at hrun hrun2
      simp only [Option.isSome_some, Option.getD_some, itV] at hrun hrun2
      clear hx hq
      go_wp2
      go_cut [7, 8] (fun s7 s8 wx => s8 = .bool true ∧ ∃ g, s7 = .pointer (some ⟨g, 0, none⟩) ∧ w1.heap.size ≤ g ∧ Row wx g 60 [.int .i64 x.kind, .string x.name, .int .i64 x.scope] ∧ Below w1.heap.size w1 wx)
      case first =>
        go_region
        all_goals go_wp2
        all_goals go_meet
        all_goals exact ⟨rfl, _, rfl, Nat.le_refl _, Row.new w1 [.int .i64 x.kind, .string x.name, .int .i64 x.scope] 60, ((Below.refl _ _).alloc (Nat.le_refl _) _).drew⟩
      case rest =>
        obtain ⟨rfl, g, rfl, hg, hrow, hbc⟩ := hcut
        have HBC := Lib.hid (HB.out.trans (hbc.mono HB.out.size))
        have RP2 := Lib.hid (RP1.out.below hbc RP1.out.lt)
        have k0 := hrow.cell (i := 0) (by rfl)
        have k1 := hrow.cell (i := 1) (by rfl)
        have k2 := hrow.cell (i := 2) (by rfl)
        have q0 := RP2.out.cell (i := 0) (by rfl)
        have q1 := RP2.out.cell (i := 1) (by rfl)
        have C3 := Lib.hid (state_any HV.out (HRW1.out.below hbc) HQ.out)
        clear hrun hrun2 t1 t1' t1A p0 p1 p0A p1A r1 r1' r1A p0' p1' hrow hbc
        go_wp2_with fail
        refine C3.out.mono ?_
        rintro e w3 ⟨rfl, hb3⟩
        have HB3 := Lib.hid (HBC.out.trans (hb3.mono HBC.out.size))
        clear hb3
        go_wp2
        go_ret
        exact ⟨_, rfl, .inl ⟨HV.out, i, j, x, rfl, rfl, HQ.out, rfl⟩, HB3.out⟩
end Go.Proofs.YtppgdigcopkeiaaDoor
namespace Go.Proofs.YtppgdigcopkeiaaDoor
open Go Go.RowKit Go.Maps
attribute [local go_sem] Oper.semAt_some
/-- The places of the items in a state among some items, in order. -/
def stsOf (ss : List Sc) (z : Int) (l : List (Nat × Nat × It)) : List (Int × Int) := (l.filter fun q => stateIt ss q == z).map fun q => ((q.1 : Int), (q.2.1 : Int))
theorem stsOf_snoc (ss : List Sc) (z : Int) (l : List (Nat × Nat × It)) (q : Nat × Nat × It) : stsOf ss z (l ++ [q]) = stsOf ss z l ++ if stateIt ss q = z then [((q.1 : Int), (q.2.1 : Int))] else [] := by
  unfold stsOf
  rw [List.filter_append, List.map_append]
  congr 1
  by_cases h : stateIt ss q = z
  · rw [if_pos h]; simp [h]
  · rw [if_neg h]; simp [h]
theorem stsOf_length (ss : List Sc) (z : Int) (l : List (Nat × Nat × It)) : (stsOf ss z l).length ≤ l.length := by
  unfold stsOf
  rw [List.length_map]
  exact List.length_filter_le _ _
def stsP (ss : List Sc) (z : Int) : List (Int × Int) := stsOf ss z (placed 0 ss)
def stOk (ss : List Sc) (z : Int) : Prop := Valid ss ∧ inB z 1 4 = true
theorem st_in (z : Int) : inB z 1 4 = true ↔ 1 ≤ z ∧ z ≤ 4 := by simp [inB]
def elSt {ss : List Sc} (z : Int) (pre : List (El ss)) : List (Int × Int) := stsOf ss z (pre.map Subtype.val)
set_option maxRecDepth 100000 in
set_option maxHeartbeats 8000000 in
theorem implItemsIn_any (ss : List Sc) (hF : Fair ss) (oa : Option Addr) (cap : Nat) (z : Int) (w : World) (hc : HoldsScopes w oa ss) (hE : TreeErrs w) :
    Calls Tryd.prog 69 #[.agg #[.slice oa ss.length cap], .int .i64 z] w (PlGot (stOk ss z) (stsP ss z) w) := by
  have hb0 := ((Below.refl w.heap.size w).alloc (Nat.le_refl _) (.cells #[.slice oa ss.length cap] 30)).alloc (by simp) (.cells #[.int .i64 z] 3)
  have C := Lib.hid ((callsIn_wide (n := 5)).2 (resolutionOf_any ss hF oa cap _ (hc.below hb0 (Nat.le_refl _)) (hE.below hb0 hE.size)))
  have HB0 := Lib.hid hb0
  have hR0 := Row.new (w.alloc (.cells #[.slice oa ss.length cap] 30)) [.int .i64 z] 3
  rw [World.size_alloc] at hR0
  have R0 := Lib.hid hR0
  clear hF hc hE hb0 hR0
  refine (callsIn_wide (n := 6)).1 ?_
  refine callsIn_of_wp_marks Tryd.func69 rfl trivial ?_ rfl
  simp only [Tryd.ntmps69, List.size_toArray, List.length_cons, List.length_nil, Nat.reduceAdd, Nat.reduceSub, Array.replicate_succ, Array.replicate_zero, List.push_toArray, List.append_toArray, List.nil_append, List.cons_append]
  gi_wp2_with fail
  refine ⟨trivial, ?_⟩
  gi_at_call 83
  refine C.out.mono ?_
  rintro e w1 (⟨hv, ⟨tp, p, rfl⟩, hb⟩ | ⟨hv, R, T, M1, M2, MR, v, ds, le, rfl, hb, hR⟩)
  · have HN : Hid (¬ stOk ss z) := Lib.hid (fun h => hv h.1)
    have HB := Lib.hid (HB0.out.trans (hb.mono HB0.out.size))
    clear hv hb
    gi_wp2
    exact ⟨_, results_tmp2 rfl _ _ _, .inl ⟨HN.out, rfl, HB.out.alloc HB.out.size _⟩⟩
  · have HB := Lib.hid (HB0.out.trans (hb.mono HB0.out.size))
    have R1 := Lib.hid (R0.out.below hb R0.out.lt)
    have k1 := R1.out.cell (i := 0) (by rfl)
    have k1' := (R1.out.alloc (.cells #[.pointer (some ⟨R, 0, none⟩)] 84)).cell (i := 0) (by rfl)
    have HV := Lib.hid hv
    have HR := Lib.hid hR
    clear hv hb hR
    by_cases hlo : z < 1
    · have HN : Hid (¬ stOk ss z) := Lib.hid (fun h => by have := ((st_in z).1 h.2).1; omega)
      gi_wp2
      exact ⟨_, results_tmp2 rfl _ _ _, .inl ⟨HN.out, rfl, HB.out.alloc HB.out.size _⟩⟩
    · by_cases hhi : 4 < z
      · have HN : Hid (¬ stOk ss z) := Lib.hid (fun h => by have := ((st_in z).1 h.2).2; omega)
        gi_wp2
        exact ⟨_, results_tmp2 rfl _ _ _, .inl ⟨HN.out, rfl, HB.out.alloc HB.out.size _⟩⟩
      · have HK : Hid (stOk ss z) := Lib.hid ⟨HV.out, (st_in z).2 ⟨by omega, by omega⟩⟩
        have r0 := ((HR.out.box.alloc (.cells #[.pointer (some ⟨R, 0, none⟩)] 84)).alloc (.cells #[.slice none 0 0] 39)).cell (i := 0) (by rfl)
        gi_wp2_with fail
        refine ⟨trivial, ?_⟩
        gi_at_call 107
        refine ((callsIn_wide (n := 5)).2 (all_any _ _)).mono ?_
        rintro e w2 ⟨rfl, rfl⟩
        gi_wp2
        have hBx : Below w1.heap.size w1 (((w1.alloc (.cells #[.pointer (some ⟨R, 0, none⟩)] 84)).alloc (.cells #[.slice none 0 0] 39)).alloc (.cells #[.pointer (some ⟨T, 0, none⟩)] 91)) := (((Below.refl _ _).alloc (Nat.le_refl _) _).alloc (by simp) _).alloc (by simp; omega) _
        have rr := ((Row.new w1 [.pointer (some ⟨R, 0, none⟩)] 84).alloc (.cells #[.slice none 0 0] 39)).alloc (.cells #[.pointer (some ⟨T, 0, none⟩)] 91)
        have bL := (Boxed.new (w1.alloc (.cells #[.pointer (some ⟨R, 0, none⟩)] 84)) 39 (.slice none 0 0)).alloc (.cells #[.pointer (some ⟨T, 0, none⟩)] 91)
        have bN := Boxed.new ((w1.alloc (.cells #[.pointer (some ⟨R, 0, none⟩)] 84)).alloc (.cells #[.slice none 0 0] 39)) 91 (.pointer (some ⟨T, 0, none⟩))
        rw [World.size_alloc] at bL
        rw [World.size_alloc, World.size_alloc] at bN
        have hsm := HV.out.small
        clear k1' r0
        refine wpIn_rangeFunc_ownH rfl (by omega) (gf := 148) (lb := #[.pointer (some ⟨w1.heap.size + 1 + 1, 0, none⟩)]) rfl trivial (enters_of Tryd.func148 (by kernel_rfl) rfl)
          (all_stops 5 (by omega) (w1.heap.size + 1 + 1) _ T M1 M2 v ds ss w1 _ HR.out.tree.tree HR.out.tree.hold (HR.out.tree.ne HV.out) hsm.len hsm.items (.of_below hBx) bN.cell) CellsKept.trans (fun W l o o' _ h1 h2 h3 => cellsKept_b (w := w1) W l o o' (by simp at *; omega) h1 h2 h3) (Below.refl _ _) (fun _ => rfl)
          (fun pre W => (∃ u, Boxed W (w1.heap.size + 1) 39 u ∧ W.ownsRow (w1.heap.size + 1) 34 2 u (elSt z pre).length (placeCells (elSt z pre)) ∧ True) ∧ (CellsKept w1.heap.size w1 W ∧ (Below w1.heap.size w1 W ∧ Row W w1.heap.size 84 [.pointer (some ⟨R, 0, none⟩)])))
          (fun _ _ _ => False)
          (OwnFrom.and (Own.from (holdsRow_own (w1.heap.size + 1) (w1.heap.size + 1) 39 34 2 (fun pre : List (El ss) => (elSt z pre).length) (fun pre => placeCells (elSt z pre)) (fun _ _ => True)) _) (OwnFrom.and (cellsKept_own w1) (OwnFrom.and (ownFrom_below (Nat.le_refl _) (by simp; omega)) (row_own _ _ _ fun _ => _))))
          (fun _ _ _ _ _ hs _ _ => hs)
          ⟨⟨_, bL, World.ownsRow_nil _ _ _ _, trivial⟩, .of_below hBx, hBx, rr⟩
          (fun x a' W => ∃ Bp Bx, Row W Bp 34 [.int .i64 (x.1.1 : Int), .int .i64 (x.1.2.1 : Int)] ∧ Row W Bx 60 [.int .i64 x.1.2.2.kind, .string x.1.2.2.name, .int .i64 x.1.2.2.scope] ∧
            a' = { tmps := #[.agg #[.slice oa ss.length cap], .int .i64 z, .pointer (some ⟨w.heap.size, 0, none⟩), .pointer (some ⟨w.heap.size + 1, 0, none⟩), .slice none 0 0, .bool false, .pointer (some ⟨w1.heap.size, 0, none⟩), .nilIface, .pointer (some ⟨w1.heap.size + 1, 0, none⟩), .pointer (some ⟨Bp, 0, none⟩), .pointer (some ⟨Bx, 0, none⟩), .tuple #[.pointer (some ⟨R, 0, none⟩), .nilIface], .agg #[.slice oa ss.length cap], .tuple #[.pointer (some ⟨R, 0, none⟩), .nilIface], .pointer (some ⟨R, 0, none⟩), .nilIface, .nilIface, .bool false, .bool false, .int .i64 z, .bool (decide (z < 1)), .bool (decide (z < 1)), .bool (decide (z < 1)), .int .i64 z, .bool (decide (4 < z)), .bool (decide (z < 1) || decide (4 < z)), .pointer (some ⟨R, 0, none⟩), .pointer (some ⟨R, 0, none⟩), .pointer (some ⟨R, 0, none⟩), .pointer (some ⟨T, 0, none⟩), .func (.func 148) #[] #[.pointer (some ⟨w1.heap.size + 1 + 1, 0, none⟩)], .agg #[.int .i64 (x.1.1 : Int), .int .i64 (x.1.2.1 : Int)], .agg #[.int .i64 x.1.2.2.kind, .string x.1.2.2.name, .int .i64 x.1.2.2.scope], undef, undef, undef, undef, undef, undef, undef, undef, undef, undef, undef], defers := [] })
          (fun x a' _ X Y row hs hg hr => by obtain ⟨Bp, Bx, h1, h2, h3⟩ := hs; exact ⟨Bp, Bx, h1.kept_cells hg (fun r e => (hr r e).2), h2.kept_cells hg (fun r e => (hr r e).2), h3⟩)
          ?assign ?body ?done ?stop
        case assign =>
          rintro l pre x W K hi hK
          dsimp only [elArgs]
          gi_wp2
          have ha : Below W.heap.size W ((W.alloc (.cells #[.int .i64 (x.1.1 : Int), .int .i64 (x.1.2.1 : Int)] 34)).alloc (.cells #[.int .i64 x.1.2.2.kind, .string x.1.2.2.name, .int .i64 x.1.2.2.scope] 60)) := ((Below.refl _ _).alloc (Nat.le_refl _) _).alloc (by simp) _
          obtain ⟨⟨u, hB, hrow, -⟩, hck, hbw, hrr⟩ := hi
          refine hK _ _ (((KeepsOthers.alloc _ _).trans (KeepsOthers.alloc _ _)).from _) ((CellsKept.of_below ha).mono hbw.size) ⟨⟨u, (hB.alloc _).alloc _, (hrow.alloc _).alloc _, trivial⟩, hck.trans ((CellsKept.of_below ha).mono hbw.size), hbw.trans (ha.mono hbw.size), (hrr.alloc _).alloc _⟩ ⟨W.heap.size, W.heap.size + 1, ?_, ?_, rfl⟩
          · exact (Row.new W [.int .i64 (x.1.1 : Int), .int .i64 (x.1.2.1 : Int)] 34).alloc _
          · have := Row.new (W.alloc (.cells #[.int .i64 (x.1.1 : Int), .int .i64 (x.1.2.1 : Int)] 34)) [.int .i64 x.1.2.2.kind, .string x.1.2.2.name, .int .i64 x.1.2.2.scope] 60
            rw [World.size_alloc] at this
            exact this
        case body =>
          rintro l pre x a' W hl _ ⟨⟨u, hB, hrow, -⟩, hck, hbw, hrr⟩ ⟨Bp, Bx, hp, hx, rfl⟩ hlen
          obtain ⟨⟨i, j, it⟩, hmem⟩ := x
          have HQ : Hid (elSt z (pre ++ [(⟨(i, j, it), hmem⟩ : El ss)]) = elSt z pre ++ if stateIt ss (i, j, it) = z then [((i : Int), (j : Int))] else []) := Lib.hid (by unfold elSt; rw [List.map_append]; exact stsOf_snoc ss z _ _)
          dsimp only at hp hx ⊢
          have hlen' : (elSt z pre).length < 1000000 := by
            have h1 := stsOf_length ss z (pre.map Subtype.val)
            have h2 := placed_bound 0 ss 6 5 HV.out.count.2 HV.out.five
            rw [List.length_map] at h1
            unfold elSt
            omega
          have p0 := hp.cell (i := 0) (by rfl)
          have p1 := hp.cell (i := 1) (by rfl)
          have x0 := hx.cell (i := 0) (by rfl)
          have x1 := hx.cell (i := 1) (by rfl)
          have x2 := hx.cell (i := 2) (by rfl)
          have c1 := hrr.cell (i := 0) (by rfl)
          have ck := hck.cell R1.out.lt k1
          have C2 := Lib.hid ((callsIn_wide (n := 3)).2 (state_any HV.out ((HR.out.below hbw).below ((Below.refl _ _).drew)) hmem))
          by_cases he : stateIt ss (i, j, it) = z
          · have hq : (stateIt ss (i, j, it) == z) = true := by simpa using he
            gi_wp2
            refine wpIn_region_kept (F := Fence.wide) (S := fun w' => w'.cell? ⟨w1.heap.size, 0, none⟩ = some (.pointer (some ⟨R, 0, none⟩)) ∧ w'.cell? ⟨Bp, 0, none⟩ = some (.int .i64 (i : Int)) ∧ w'.cell? ⟨Bp, 1, none⟩ = some (.int .i64 (j : Int)) ∧ w'.cell? ⟨Bx, 0, none⟩ = some (.int .i64 it.kind) ∧ w'.cell? ⟨Bx, 1, none⟩ = some (.string it.name) ∧ w'.cell? ⟨Bx, 2, none⟩ = some (.int .i64 it.scope) ∧ w'.cell? ⟨w.heap.size + 1, 0, none⟩ = some (.int .i64 z)) 1000 l (by kernel_rfl) (by kernel_rfl) ?_
            have hS0 := And.intro (cell_drew c1) (And.intro (cell_drew p0) (And.intro (cell_drew p1) (And.intro (cell_drew x0) (And.intro (cell_drew x1) (And.intro (cell_drew x2) (cell_drew ck))))))
            refine KeptAny.take (i := 0) (v := ?_) (by kernel_rfl) rfl rfl (by kernel_rfl) (by kernel_rfl) (by kernel_rfl) (fun _ _ _ h => h) (by rfl) (fun w' hw' => ?_) (fun _ => rfl) hS0 ?_
            rotate_left
            · (obtain ⟨s0, s1, s2, s3, s4, s5, s6⟩ := hw'; go_simp; try with_reducible rfl)
            refine KeptAny.take (i := 1) (v := ?_) (by kernel_rfl) rfl rfl (by kernel_rfl) (by kernel_rfl) (by kernel_rfl) (fun _ _ _ h => h) (by rfl) (fun w' hw' => ?_) (fun _ => rfl) hS0 ?_
            rotate_left
            · (obtain ⟨s0, s1, s2, s3, s4, s5, s6⟩ := hw'; go_simp; try with_reducible rfl)
            refine KeptAny.take (i := 2) (v := ?_) (by kernel_rfl) rfl rfl (by kernel_rfl) (by kernel_rfl) (by kernel_rfl) (fun _ _ _ h => h) (by rfl) (fun w' hw' => ?_) (fun _ => rfl) hS0 ?_
            rotate_left
            · (obtain ⟨s0, s1, s2, s3, s4, s5, s6⟩ := hw'; go_simp; try with_reducible rfl)
            refine KeptAny.take (i := 4) (v := ?_) (by kernel_rfl) rfl rfl (by kernel_rfl) (by kernel_rfl) (by kernel_rfl) (fun _ _ _ h => h) (by rfl) (fun w' hw' => ?_) (fun _ => rfl) hS0 ?_
            rotate_left
            · (obtain ⟨s0, s1, s2, s3, s4, s5, s6⟩ := hw'; go_simp; try with_reducible rfl)
            refine KeptAny.one (i := 3) (by kernel_rfl) rfl (by rfl) (fun K hK => ?_)
            go_simp
            refine ⟨trivial, ?_⟩
            refine C2.out.mono ?_
            rintro e w4 ⟨rfl, hb4⟩
            have hS4 := And.intro (cell_grow hb4 (cell_drew c1)) (And.intro (cell_grow hb4 (cell_drew p0)) (And.intro (cell_grow hb4 (cell_drew p1)) (And.intro (cell_grow hb4 (cell_drew x0)) (And.intro (cell_grow hb4 (cell_drew x1)) (And.intro (cell_grow hb4 (cell_drew x2)) (cell_grow hb4 (cell_drew ck)))))))
            refine hK.out _ _ hS4 (fun hS => ?_)
            have hb4' : Below W.heap.size W w4 := ((Below.refl _ _).drew).trans hb4
            have HB4 := Lib.hid (hb4'.mono hbw.size)
            have hB4 : Boxed w4 (w1.heap.size + 1) 39 u := (hb4'.block _ hB.lt).trans hB
            have hrow4 := ownsRow_below hrow hb4'
            have hrr4 := hrr.below hb4' hrr.lt
            have hbw4 := hbw.trans HB4.out
            have hck4 := hck.trans (.of_below HB4.out)
            have hKF := (keepsOthers_of_below hb4')
            have q0 := hS.2.1
            have q1 := hS.2.2.1
            have HKF := Lib.hid hKF
            have HCB4 := Lib.hid (And.intro hck4 (And.intro hbw4 hrr4))
            have HS4 := Lib.hid hS
            have hsz4 : w1.heap.size + 1 ≤ w4.heap.size := Nat.le_of_lt hB4.lt
            have HE : Hid (elSt z (pre ++ [(⟨(i, j, it), hmem⟩ : El ss)]) = elSt z pre ++ [((i : Int), (j : Int))]) := Lib.hid (by rw [HQ.out, if_pos he])
            obtain ⟨v', w5, hrun, hown', hgrow⟩ := append_place0 hrow4 (i : Int) (j : Int) hlen' hsz4 39
            have hown2 := hown'
            obtain ⟨g', cap', rfl⟩ := ownsRow_succ hown'
            simp [go_sem] at hrun
            obtain ⟨hv1, hv2, hr2, hk2, hb2⟩ := hB4.appended (by decide) hrow4 hsz4 (Nat.le_refl _) hown2 hgrow
            have cc0 := hB4.cell
            have cc0' := (hB4.alloc (.cells #[.int .i64 (i : Int), .int .i64 (j : Int)] 34)).cell
            have cc1 := hv1.cell
            have ff1 := hv1.frozen
            have HP := Lib.hid (And.intro hv2 (And.intro hr2 (And.intro hk2 hb2)))
            clear hB hrow hck hbw hown' hown2 hgrow hv1 hv2 hr2 hk2 hb2 he hp hx hB4 hrow4 hrr4 hbw4 hck4 hb4 hb4' hKF hrr hS hS4 hK
            refine KeptAny.take (i := 5) (v := ?_) (by kernel_rfl) rfl rfl (by kernel_rfl) (by kernel_rfl) (by kernel_rfl) (fun _ _ _ h => h) (by rfl) (fun w' hw' => ?_) (fun _ => rfl) HS4.out ?_
            rotate_left
            · (go_simp; try with_reducible rfl)
            refine KeptAny.done (by kernel_rfl) ?_ _
            gi_wp2
            refine ⟨(HKF.out.trans HP.out.2.2.1).from _, .of_below (HB4.out.trans (HP.out.2.2.2.mono (by omega))), ⟨_, HP.out.1, ?_, trivial⟩, HCB4.out.1.trans (.of_below (HP.out.2.2.2.mono (by omega))), HCB4.out.2.1.trans (HP.out.2.2.2.mono (by omega)), HCB4.out.2.2.below HP.out.2.2.2 (by omega)⟩
            rw [HE.out, List.length_append, placeCells_snoc]
            exact HP.out.2.1
          · have hq : (stateIt ss (i, j, it) == z) = false := by simpa using he
            gi_wp2
            refine wpIn_region_kept (F := Fence.wide) (S := fun w' => w'.cell? ⟨w1.heap.size, 0, none⟩ = some (.pointer (some ⟨R, 0, none⟩)) ∧ w'.cell? ⟨Bp, 0, none⟩ = some (.int .i64 (i : Int)) ∧ w'.cell? ⟨Bp, 1, none⟩ = some (.int .i64 (j : Int)) ∧ w'.cell? ⟨Bx, 0, none⟩ = some (.int .i64 it.kind) ∧ w'.cell? ⟨Bx, 1, none⟩ = some (.string it.name) ∧ w'.cell? ⟨Bx, 2, none⟩ = some (.int .i64 it.scope) ∧ w'.cell? ⟨w.heap.size + 1, 0, none⟩ = some (.int .i64 z)) 1000 l (by kernel_rfl) (by kernel_rfl) ?_
            have hS0 := And.intro (cell_drew c1) (And.intro (cell_drew p0) (And.intro (cell_drew p1) (And.intro (cell_drew x0) (And.intro (cell_drew x1) (And.intro (cell_drew x2) (cell_drew ck))))))
            refine KeptAny.take (i := 0) (v := ?_) (by kernel_rfl) rfl rfl (by kernel_rfl) (by kernel_rfl) (by kernel_rfl) (fun _ _ _ h => h) (by rfl) (fun w' hw' => ?_) (fun _ => rfl) hS0 ?_
            rotate_left
            · (obtain ⟨s0, s1, s2, s3, s4, s5, s6⟩ := hw'; go_simp; try with_reducible rfl)
            refine KeptAny.take (i := 1) (v := ?_) (by kernel_rfl) rfl rfl (by kernel_rfl) (by kernel_rfl) (by kernel_rfl) (fun _ _ _ h => h) (by rfl) (fun w' hw' => ?_) (fun _ => rfl) hS0 ?_
            rotate_left
            · (obtain ⟨s0, s1, s2, s3, s4, s5, s6⟩ := hw'; go_simp; try with_reducible rfl)
            refine KeptAny.take (i := 2) (v := ?_) (by kernel_rfl) rfl rfl (by kernel_rfl) (by kernel_rfl) (by kernel_rfl) (fun _ _ _ h => h) (by rfl) (fun w' hw' => ?_) (fun _ => rfl) hS0 ?_
            rotate_left
            · (obtain ⟨s0, s1, s2, s3, s4, s5, s6⟩ := hw'; go_simp; try with_reducible rfl)
            refine KeptAny.take (i := 4) (v := ?_) (by kernel_rfl) rfl rfl (by kernel_rfl) (by kernel_rfl) (by kernel_rfl) (fun _ _ _ h => h) (by rfl) (fun w' hw' => ?_) (fun _ => rfl) hS0 ?_
            rotate_left
            · (obtain ⟨s0, s1, s2, s3, s4, s5, s6⟩ := hw'; go_simp; try with_reducible rfl)
            refine KeptAny.one (i := 3) (by kernel_rfl) rfl (by rfl) (fun K hK => ?_)
            go_simp
            refine ⟨trivial, ?_⟩
            refine C2.out.mono ?_
            rintro e w4 ⟨rfl, hb4⟩
            have hS4 := And.intro (cell_grow hb4 (cell_drew c1)) (And.intro (cell_grow hb4 (cell_drew p0)) (And.intro (cell_grow hb4 (cell_drew p1)) (And.intro (cell_grow hb4 (cell_drew x0)) (And.intro (cell_grow hb4 (cell_drew x1)) (And.intro (cell_grow hb4 (cell_drew x2)) (cell_grow hb4 (cell_drew ck)))))))
            refine hK.out _ _ hS4 (fun hS => ?_)
            have hb4' : Below W.heap.size W w4 := ((Below.refl _ _).drew).trans hb4
            have HB4 := Lib.hid (hb4'.mono hbw.size)
            have hB4 : Boxed w4 (w1.heap.size + 1) 39 u := (hb4'.block _ hB.lt).trans hB
            have hrow4 := ownsRow_below hrow hb4'
            have hrr4 := hrr.below hb4' hrr.lt
            have hbw4 := hbw.trans HB4.out
            have hck4 := hck.trans (.of_below HB4.out)
            have hKF := (keepsOthers_of_below hb4')
            have q0 := hS.2.1
            have q1 := hS.2.2.1
            have HKF := Lib.hid hKF
            have HCB4 := Lib.hid (And.intro hck4 (And.intro hbw4 hrr4))
            have HS4 := Lib.hid hS
            have hsz4 : w1.heap.size + 1 ≤ w4.heap.size := Nat.le_of_lt hB4.lt
            have HE : Hid (elSt z (pre ++ [(⟨(i, j, it), hmem⟩ : El ss)]) = elSt z pre) := Lib.hid (by rw [HQ.out, if_neg he, List.append_nil])
            have HP := Lib.hid (And.intro hB4 hrow4)
            clear hB hrow hck hbw he hp hx hB4 hrow4 hrr4 hbw4 hck4 hb4 hb4' hKF hrr hS hS4 hK
            refine KeptAny.take (i := 5) (v := ?_) (by kernel_rfl) rfl rfl (by kernel_rfl) (by kernel_rfl) (by kernel_rfl) (fun _ _ _ h => h) (by rfl) (fun w' hw' => ?_) (fun _ => rfl) HS4.out ?_
            rotate_left
            · (go_simp; try with_reducible rfl)
            refine KeptAny.done (by kernel_rfl) ?_ _
            gi_wp2
            refine ⟨HKF.out.from _, .of_below HB4.out, ⟨u, HP.out.1, ?_, trivial⟩, HCB4.out.1, HCB4.out.2.1, HCB4.out.2.2⟩
            rw [HE.out]
            exact HP.out.2
        case done =>
          rintro D xs W hD hS ⟨⟨u, hB, hrow, -⟩, hck, hbw, hrr⟩ hK
          have cB := hB.cell
          have HS2 : Hid (elSt z xs = stsP ss z) := Lib.hid (by unfold elSt stsP; rw [hS])
          clear hS
          gi_wp2
          refine ⟨by simp, .inl ⟨_, _, rfl, run_takeDeferred hK, ?_⟩⟩
          have hrow2 := ownsRow_lower (ownsRow_putObj hrow (.deferred none) hK rfl) (show w.heap.size ≤ w1.heap.size + 1 from Nat.le_succ_of_le HB.out.size)
          rw [HS2.out] at hrow2
          have hend : Below w.heap.size w (W.putObj D (.deferred none)) := HB.out.trans ((hbw.mono HB.out.size).trans (belowK_b (w := w) (Nat.le_refl _) W D _ _ (by have := HB.out.size; simp at hD; omega) hK rfl rfl))
          exact ⟨_, results_tmp2 rfl _ _ _, .inr ⟨HK.out, u, rfl, hrow2, hend⟩⟩
        case stop =>
          rintro D c pre W _ _ h _
          exact h.elim
/-- What IsSound answers. -/
def SoundVal (ss : List Sc) (b : Bool) : Prop := b = true ↔ Valid ss ∧ ∀ q ∈ placed 0 ss, stateIt ss q = 1
theorem SoundVal.same {ss : List Sc} {a b : Bool} (h : SoundVal ss a) (k : SoundVal ss b) : a = b := Bool.eq_iff_iff.2 (h.trans k.symm)
set_option maxRecDepth 100000 in
set_option maxHeartbeats 8000000 in
theorem implIsSound_any (ss : List Sc) (hF : Fair ss) (oa : Option Addr) (cap : Nat) (w : World) (hc : HoldsScopes w oa ss) (hE : TreeErrs w) :
    Calls Tryd.prog 71 #[.agg #[.slice oa ss.length cap]] w fun e w' => ∃ b, e = .returned (.bool b) ∧ SoundVal ss b ∧ Below w.heap.size w w' := by
  have hb0 := ((Below.refl w.heap.size w).alloc (Nat.le_refl _) (.cells #[.slice oa ss.length cap] 30)).alloc (by simp) (.cells #[.bool false] 4)
  have C := Lib.hid ((callsIn_wide (n := 5)).2 (resolutionOf_any ss hF oa cap _ (hc.below hb0 (Nat.le_refl _)) (hE.below hb0 hE.size)))
  have HB0 := Lib.hid hb0
  have hR0 := Row.new (w.alloc (.cells #[.slice oa ss.length cap] 30)) [.bool false] 4
  rw [World.size_alloc] at hR0
  have R0 := Lib.hid hR0
  clear hF hc hE hb0 hR0
  refine (callsIn_wide (n := 6)).1 ?_
  refine callsIn_of_wp_marks Tryd.func71 rfl trivial ?_ rfl
  simp only [Tryd.ntmps71, List.size_toArray, List.length_cons, List.length_nil, Nat.reduceAdd, Nat.reduceSub, Array.replicate_succ, Array.replicate_zero, List.push_toArray, List.append_toArray, List.nil_append, List.cons_append]
  gi_wp2_with fail
  refine ⟨trivial, ?_⟩
  gi_at_call 83
  refine C.out.mono ?_
  rintro e w1 (⟨hv, ⟨tp, p, rfl⟩, hb⟩ | ⟨hv, R, T, M1, M2, MR, v, ds, le, rfl, hb, hR⟩)
  · have HN : Hid (SoundVal ss false) := Lib.hid ⟨fun h => (by cases h), fun h => absurd h.1 hv⟩
    have HB := Lib.hid (HB0.out.trans (hb.mono HB0.out.size))
    have RR := Lib.hid ((R0.out.below hb R0.out.lt).alloc (.cells #[.pointer none] 84))
    have f0 := RR.out.frozen 0
    have c0 := RR.out.cell (i := 0) (by rfl)
    have HS0 := Lib.hid HB0.out.size
    clear hv hb
    gi_wp2
    have q0 := (RR.out.set 0 (.bool false)).cell (i := 0) (by rfl)
    exact ⟨_, by simp [results, Tryd.results71, go_sem, q0], ⟨_, rfl, HN.out, (HB.out.alloc HB.out.size _).setCell (by simp) _⟩⟩
  · have HB := Lib.hid (HB0.out.trans (hb.mono HB0.out.size))
    have R1 := Lib.hid (R0.out.below hb R0.out.lt)
    have HV := Lib.hid hv
    have HR := Lib.hid hR
    have HLT : Hid (w.heap.size + 1 < w1.heap.size) := Lib.hid R1.out.lt
    clear hv hb hR
    have r0 := (HR.out.box.alloc (.cells #[.pointer (some ⟨R, 0, none⟩)] 84)).cell (i := 0) (by rfl)
    gi_wp2_with fail
    refine ⟨trivial, ?_⟩
    gi_at_call 107
    refine ((callsIn_wide (n := 5)).2 (all_any _ _)).mono ?_
    rintro e w2 ⟨rfl, rfl⟩
    gi_wp2
    have hBx : Below w1.heap.size w1 ((w1.alloc (.cells #[.pointer (some ⟨R, 0, none⟩)] 84)).alloc (.cells #[.pointer (some ⟨T, 0, none⟩)] 91)) := ((Below.refl _ _).alloc (Nat.le_refl _) _).alloc (by simp) _
    have rr := (Row.new w1 [.pointer (some ⟨R, 0, none⟩)] 84).alloc (.cells #[.pointer (some ⟨T, 0, none⟩)] 91)
    have bN := Boxed.new (w1.alloc (.cells #[.pointer (some ⟨R, 0, none⟩)] 84)) 91 (.pointer (some ⟨T, 0, none⟩))
    rw [World.size_alloc] at bN
    have hsm := HV.out.small
    clear r0
    refine wpIn_rangeFunc_ownH rfl (by omega) (gf := 148) (lb := #[.pointer (some ⟨w1.heap.size + 1, 0, none⟩)]) rfl trivial (enters_of Tryd.func148 (by kernel_rfl) rfl)
      (all_stops 5 (by omega) (w1.heap.size + 1) _ T M1 M2 v ds ss w1 _ HR.out.tree.tree HR.out.tree.hold (HR.out.tree.ne HV.out) hsm.len hsm.items (.of_below hBx) bN.cell) CellsKept.trans (fun W l o o' _ h1 h2 h3 => cellsKept_b (w := w1) W l o o' (by simp at *; omega) h1 h2 h3) (Below.refl _ _) (fun _ => rfl)
      (fun pre W => CellsKept w1.heap.size w1 W ∧ (Below w1.heap.size w1 W ∧ (Row W w1.heap.size 84 [.pointer (some ⟨R, 0, none⟩)] ∧ Hid (∀ q ∈ pre.map Subtype.val, stateIt ss q = 1))))
      (fun c pre W => c = .ret ∧ (Hid (∃ q ∈ placed 0 ss, stateIt ss q ≠ 1) ∧ (Row W (w.heap.size + 1) 4 [.bool false] ∧ Below w.heap.size w W)))
      (OwnFrom.and (cellsKept_own w1) (OwnFrom.and (ownFrom_below (Nat.le_refl _) (by simp; omega)) (OwnFrom.and (row_own _ _ _ fun _ => _) (fun _ _ _ _ hs _ _ => hs))))
      (fun _ _ _ _ _ hs hg hr => ⟨hs.1, hs.2.1, hs.2.2.1.kept_cells hg (fun r e => (hr r e).2), below_grown_far hs.2.2.2 hg (Nat.le_refl _) (by have := HLT.out; simp; omega) (fun r e => (hr r e).1)⟩)
      ⟨.of_below hBx, hBx, rr, Lib.hid (fun q hq => by simp at hq)⟩
      (fun x a' W => ∃ Bp Bx, Row W Bp 34 [.int .i64 (x.1.1 : Int), .int .i64 (x.1.2.1 : Int)] ∧ Row W Bx 60 [.int .i64 x.1.2.2.kind, .string x.1.2.2.name, .int .i64 x.1.2.2.scope] ∧
        a' = { tmps := #[.agg #[.slice oa ss.length cap], .pointer (some ⟨w.heap.size, 0, none⟩), .pointer (some ⟨w.heap.size + 1, 0, none⟩), .pointer (some ⟨w1.heap.size, 0, none⟩), .nilIface, .pointer (some ⟨Bp, 0, none⟩), .pointer (some ⟨Bx, 0, none⟩), .tuple #[.pointer (some ⟨R, 0, none⟩), .nilIface], .agg #[.slice oa ss.length cap], .tuple #[.pointer (some ⟨R, 0, none⟩), .nilIface], .pointer (some ⟨R, 0, none⟩), .nilIface, .nilIface, .bool false, .pointer (some ⟨R, 0, none⟩), .pointer (some ⟨R, 0, none⟩), .pointer (some ⟨R, 0, none⟩), .pointer (some ⟨T, 0, none⟩), .func (.func 148) #[] #[.pointer (some ⟨w1.heap.size + 1, 0, none⟩)], .agg #[.int .i64 (x.1.1 : Int), .int .i64 (x.1.2.1 : Int)], .agg #[.int .i64 x.1.2.2.kind, .string x.1.2.2.name, .int .i64 x.1.2.2.scope], undef, undef, undef, undef, undef], defers := [] })
      (fun x a' _ X Y row hs hg hr => by obtain ⟨Bp, Bx, h1, h2, h3⟩ := hs; exact ⟨Bp, Bx, h1.kept_cells hg (fun r e => (hr r e).2), h2.kept_cells hg (fun r e => (hr r e).2), h3⟩)
      ?assign ?body ?done ?stop
    case assign =>
      rintro l pre x W K hi hK
      dsimp only [elArgs]
      gi_wp2
      have ha : Below W.heap.size W ((W.alloc (.cells #[.int .i64 (x.1.1 : Int), .int .i64 (x.1.2.1 : Int)] 34)).alloc (.cells #[.int .i64 x.1.2.2.kind, .string x.1.2.2.name, .int .i64 x.1.2.2.scope] 60)) := ((Below.refl _ _).alloc (Nat.le_refl _) _).alloc (by simp) _
      obtain ⟨hck, hbw, hrr, hal⟩ := hi
      refine hK _ _ (((KeepsOthers.alloc _ _).trans (KeepsOthers.alloc _ _)).from _) ((CellsKept.of_below ha).mono hbw.size) ⟨hck.trans ((CellsKept.of_below ha).mono hbw.size), hbw.trans (ha.mono hbw.size), (hrr.alloc _).alloc _, hal⟩ ⟨W.heap.size, W.heap.size + 1, ?_, ?_, rfl⟩
      · exact (Row.new W [.int .i64 (x.1.1 : Int), .int .i64 (x.1.2.1 : Int)] 34).alloc _
      · have := Row.new (W.alloc (.cells #[.int .i64 (x.1.1 : Int), .int .i64 (x.1.2.1 : Int)] 34)) [.int .i64 x.1.2.2.kind, .string x.1.2.2.name, .int .i64 x.1.2.2.scope] 60
        rw [World.size_alloc] at this
        exact this
    case body =>
      rintro l pre x a' W hl _ ⟨hck, hbw, hrr, hal⟩ ⟨Bp, Bx, hp, hx, rfl⟩ hlen
      obtain ⟨⟨i, j, it⟩, hmem⟩ := x
      dsimp only at hp hx ⊢
      have p0 := hp.cell (i := 0) (by rfl)
      have p1 := hp.cell (i := 1) (by rfl)
      have x0 := hx.cell (i := 0) (by rfl)
      have x1 := hx.cell (i := 1) (by rfl)
      have x2 := hx.cell (i := 2) (by rfl)
      have c1 := hrr.cell (i := 0) (by rfl)
      have C2 := Lib.hid (CallsIn.inRound l ((callsIn_wide (n := 3)).2 (state_any HV.out (HR.out.below hbw) hmem)))
      have HI := Lib.hid (And.intro hck (And.intro hbw hrr))
      have HAL := Lib.hid hal.out
      have HMEM := Lib.hid hmem
      clear hck hbw hrr hal hp hx
      gi_wp2_with fail
      refine ⟨trivial, ?_⟩
      gi_at_call 119
      refine C2.out.mono ?_
      rintro e w4 ⟨rfl, hb4⟩
      have HB4 := Lib.hid hb4
      have HKF := Lib.hid (keepsOthers_of_below hb4)
      have HBW4 := Lib.hid (HI.out.2.1.trans (hb4.mono HI.out.2.1.size))
      have HCK4 := Lib.hid (HI.out.1.trans ((CellsKept.of_below hb4).mono HI.out.2.1.size))
      have HRR4 := Lib.hid (HI.out.2.2.below hb4 HI.out.2.2.lt)
      clear hb4 p0 p1 x0 x1 x2 c1
      by_cases he : stateIt ss (i, j, it) = 1
      · have hq : (stateIt ss (i, j, it) != 1) = false := by simpa using he
        have HALL : Hid (∀ q ∈ (pre ++ [(⟨(i, j, it), HMEM.out⟩ : El ss)]).map Subtype.val, stateIt ss q = 1) := Lib.hid (by
          intro q hq
          rw [List.map_append, List.mem_append] at hq
          rcases hq with h | h
          · exact HAL.out q h
          · simp only [List.map_cons, List.map_nil, List.mem_singleton] at h
            rw [h]; exact he)
        clear he
        gi_wp2
        exact ⟨HKF.out.from _, (CellsKept.of_below HB4.out).mono HI.out.2.1.size, HCK4.out, HBW4.out, HRR4.out, HALL⟩
      · have hq : (stateIt ss (i, j, it) != 1) = true := by simpa using he
        have HBAD : Hid (∃ q ∈ placed 0 ss, stateIt ss q ≠ 1) := Lib.hid ⟨_, HMEM.out, he⟩
        have RB := Lib.hid (R1.out.below HBW4.out R1.out.lt)
        have f0 := RB.out.frozen 0
        have c0 := RB.out.cell (i := 0) (by rfl)
        clear he
        gi_wp2
        refine ⟨(HKF.out.trans (KeepsOthers.setCell _ _ _)).from _, rfl, HBAD, RB.out.set 0 _, ?_⟩
        exact (HB.out.trans (HBW4.out.mono HB.out.size)).setCell (by simp) _
    case done =>
      rintro D xs W hD hS ⟨hck, hbw, hrr, hal⟩ hK
      have RB := Lib.hid (R1.out.below hbw R1.out.lt)
      have f0 := RB.out.frozen 0
      have c0 := RB.out.cell (i := 0) (by rfl)
      have HT : Hid (SoundVal ss true) := Lib.hid ⟨fun _ => ⟨HV.out, by rw [← hS]; exact hal.out⟩, fun _ => rfl⟩
      have HBW := Lib.hid hbw
      have HK := Lib.hid hK
      have hDD : w1.heap.size ≤ D := by simp at hD; omega
      clear hS hal hck hrr hbw hK hD
      gi_wp2
      have hK2 : (W.setCell ⟨w.heap.size + 1, 0, none⟩ (.bool true)).heap[D]? = some (.deferred (some [])) := (KeepsOthers.setCell _ _ _).same D _ HK.out rfl
      refine ⟨by simp, .inl ⟨_, _, rfl, run_takeDeferred hK2, ?_⟩⟩
      have hlt := HLT.out
      have q0 := ((RB.out.set 0 (.bool true)).same (World.putObj_heap_other (r := D) (o := .deferred none) (by omega))).cell (i := 0) (by rfl)
      have hend : Below w.heap.size w ((W.setCell ⟨w.heap.size + 1, 0, none⟩ (.bool true)).putObj D (.deferred none)) := ((HB.out.trans (HBW.out.mono HB.out.size)).setCell (p := ⟨w.heap.size + 1, 0, none⟩) (by simp) (.bool true)).trans (belowK_b (w := w) (Nat.le_refl _) _ D _ _ (by have := HB.out.size; omega) hK2 rfl rfl)
      exact ⟨_, by simp [results, Tryd.results71, go_sem, q0], ⟨true, rfl, HT.out, hend⟩⟩
    case stop =>
      rintro D c pre W hD hpre ⟨rfl, hbad, hrow, hbw⟩ hK
      have hDD : w1.heap.size ≤ D := by simp at hD; omega
      have HT : Hid (SoundVal ss false) := Lib.hid ⟨fun h => (by cases h), fun h => by obtain ⟨q, hq, hn⟩ := hbad.out; exact absurd (h.2 q hq) hn⟩
      have HBB := Lib.hid (And.intro hrow hbw)
      have HK := Lib.hid hK
      clear hD hrow hbw hK hpre hbad
      gi_wp2
      refine ⟨by simp, .inl ⟨_, _, rfl, run_takeDeferred HK.out, ?_⟩⟩
      have hlt := HLT.out
      have q0 := (HBB.out.1.same (World.putObj_heap_other (r := D) (o := .deferred none) (by omega))).cell (i := 0) (by rfl)
      exact ⟨_, by simp [results, Tryd.results71, go_sem, q0], ⟨false, rfl, HT.out, HBB.out.2.trans (belowK_b (w := w) (Nat.le_refl _) _ D _ _ (by have := HB.out.size; omega) HK.out rfl rfl)⟩⟩
end Go.Proofs.YtppgdigcopkeiaaDoor
namespace Go.Proofs.YtppgdigcopkeiaaDoor
open Go Go.RowKit Go.Maps
attribute [local go_sem ↓] field_kind field_name field_scope
set_option maxRecDepth 100000 in
set_option maxHeartbeats 4000000 in
theorem specResolve_any (ss : List Sc) (hv : Valid ss) (hf : FitsScopes ss) (oa : Option Addr) (cap : Nat) {i j : Nat} {x : It} (hq : (i, j, x) ∈ placed 0 ss) (w : World) (hc : HoldsScopes w oa ss) :
    Calls Tryd.prog 118 #[.agg #[.slice oa ss.length cap], .agg #[.int .i64 (i : Int), .int .i64 (j : Int)]] w (PlsGot (meanIt ss (i, j, x)) w) := by
  have hb0 : Below w.heap.size w ((w.alloc (.cells #[.slice oa ss.length cap] 30)).alloc (.cells #[.int .i64 (i : Int), .int .i64 (j : Int)] 34)) := ((Below.refl _ _).alloc (Nat.le_refl _) _).alloc (by simp) _
  have RG := Lib.hid ((Row.new w [.slice oa ss.length cap] 30).alloc (.cells #[.int .i64 (i : Int), .int .i64 (j : Int)] 34))
  have RP : Hid (Row ((w.alloc (.cells #[.slice oa ss.length cap] 30)).alloc (.cells #[.int .i64 (i : Int), .int .i64 (j : Int)] 34)) (w.heap.size + 1) 34 [.int .i64 (i : Int), .int .i64 (j : Int)]) := Lib.hid (by
    have := Row.new (w.alloc (.cells #[.slice oa ss.length cap] 30)) [.int .i64 (i : Int), .int .i64 (j : Int)] 34
    rw [World.size_alloc] at this
    exact this)
  obtain ⟨c, hsc, hx⟩ := placed_at hq
  dsimp only at hsc hx
  have C := Lib.hid (specAt_any ss hf oa cap i j c x hsc hx _ (hc.below hb0 (Nat.le_refl _)))
  have HSL := Lib.hid (List.getElem?_eq_some_iff.1 hsc).1
  have HB0 := Lib.hid hb0
  have HC := Lib.hid hc
  have HF := Lib.hid hf
  have HV := Lib.hid hv
  have HK : Hid (meanIt ss (i, j, x) = if x.kind = 2 then (lookP ss i x.name).places else if x.kind = 3 then meantP ss i x.name else [((i : Int), (j : Int))]) := Lib.hid rfl
  clear hf hc hb0 hv hq hsc hx
  unfold itV at C
  go_enter Tryd.func118, Tryd.ntmps118
  go_wp2_with fail
  refine C.out.mono ?_
  rintro e w1 ⟨rfl, hb1⟩
  have hbx := hb1.trans ((Below.refl w1.heap.size w1).alloc (Nat.le_refl _) (.cells #[.int .i64 x.kind, .string x.name, .int .i64 x.scope] 60) |>.mono hb1.size)
  have HB2 := Lib.hid (HB0.out.trans (hbx.mono HB0.out.size))
  have g2 := (RG.out.below hbx RG.out.lt).cell (i := 0) (v := .slice oa ss.length cap) (by rfl)
  have p2 := (RP.out.below hbx RP.out.lt).cell (i := 0) (v := .int .i64 (i : Int)) (by rfl)
  have p3 := (RP.out.below hbx RP.out.lt).cell (i := 1) (v := .int .i64 (j : Int)) (by rfl)
  clear hb1 hbx
  by_cases hk2 : x.kind = 2
  · have hq2 : (x.kind == 2) = true := by simpa using hk2
    have HE : Hid (meanIt ss (i, j, x) = (lookP ss i x.name).places) := Lib.hid (by rw [HK.out, if_pos hk2])
    have C2 := Lib.hid (specLookUp3_any ss HV.out HF.out oa cap i HSL.out x.name _ (HC.out.below HB2.out (Nat.le_refl _)))
    clear hk2
    go_wp2_with fail
    refine C2.out.mono ?_
    rintro e w3 ⟨u, rfl, hu, hb3⟩
    have HB3 := Lib.hid (HB2.out.trans (hb3.mono HB2.out.size))
    have HU := Lib.hid (ownsRow_lower hu HB2.out.size)
    clear hb3 hu
    go_wp2
    go_ret
    exact ⟨_, rfl, by rw [HE.out]; exact HU.out, HB3.out⟩
  · have hq2 : (x.kind == 2) = false := by simpa using hk2
    by_cases hk3 : x.kind = 3
    · have hq3 : (x.kind == 3) = true := by simpa using hk3
      have HE : Hid (meanIt ss (i, j, x) = meantP ss i x.name) := Lib.hid (by rw [HK.out, if_neg hk2, if_pos hk3])
      have C2 := Lib.hid (specMeant_any ss HV.out HF.out oa cap i HSL.out x.name _ (HC.out.below HB2.out (Nat.le_refl _)))
      clear hk2 hk3
      go_wp2_with fail
      refine C2.out.mono ?_
      rintro e w3 ⟨u, rfl, hu, hb3⟩
      have HB3 := Lib.hid (HB2.out.trans (hb3.mono HB2.out.size))
      have HU := Lib.hid (ownsRow_lower hu HB2.out.size)
      clear hb3 hu
      go_wp2
      go_ret
      exact ⟨_, rfl, by rw [HE.out]; exact HU.out, HB3.out⟩
    · have hq3 : (x.kind == 3) = false := by simpa using hk3
      have HE : Hid (meanIt ss (i, j, x) = [((i : Int), (j : Int))]) := Lib.hid (by rw [HK.out, if_neg hk2, if_neg hk3])
      have hO := ownsRow_one (W := w1.alloc (.cells #[.int .i64 x.kind, .string x.name, .int .i64 x.scope] 60)) HB2.out.size (i : Int) (j : Int)
      rw [World.size_alloc] at hO
      have HO := Lib.hid hO
      clear hk2 hk3 hO
      go_wp2
      go_ret
      exact ⟨_, rfl, by rw [HE.out]; exact HO.out, HB2.out.alloc HB2.out.size _⟩
set_option maxRecDepth 100000 in
set_option maxHeartbeats 4000000 in
theorem specResolveItem_any (ss : List Sc) (hf : FitsScopes ss) (oa : Option Addr) (cap : Nat) (a b : Int) (w : World) (hc : HoldsScopes w oa ss) :
    Calls Tryd.prog 61 #[.agg #[.slice oa ss.length cap], .agg #[.int .i64 a, .int .i64 b]] w (PlGot2 (itemHas ss a b) (meanAt ss a b) w) := by
  have hb0 : Below w.heap.size w ((w.alloc (.cells #[.slice oa ss.length cap] 30)).alloc (.cells #[.int .i64 a, .int .i64 b] 34)) := ((Below.refl _ _).alloc (Nat.le_refl _) _).alloc (by simp) _
  have RG := Lib.hid ((Row.new w [.slice oa ss.length cap] 30).alloc (.cells #[.int .i64 a, .int .i64 b] 34))
  have RP : Hid (Row ((w.alloc (.cells #[.slice oa ss.length cap] 30)).alloc (.cells #[.int .i64 a, .int .i64 b] 34)) (w.heap.size + 1) 34 [.int .i64 a, .int .i64 b]) := Lib.hid (by
    have := Row.new (w.alloc (.cells #[.slice oa ss.length cap] 30)) [.int .i64 a, .int .i64 b] 34
    rw [World.size_alloc] at this
    exact this)
  have C := Lib.hid (specValid_any ss oa cap _ hf (hc.below hb0 (Nat.le_refl _)))
  have HB0 := Lib.hid hb0
  have HC := Lib.hid hc
  have HF := Lib.hid hf
  clear hf hc hb0
  go_enter Tryd.func61, Tryd.ntmps61
  go_wp2_with fail
  refine C.out.mono ?_
  rintro e w1 ⟨q, rfl, hv, hb⟩
  have HB := Lib.hid (HB0.out.trans (hb.mono HB0.out.size))
  have RG1 := Lib.hid (RG.out.below hb RG.out.lt)
  have RP1 := Lib.hid (RP.out.below hb RP.out.lt)
  have HV := Lib.hid hv
  have g1 := RG1.out.cell (i := 0) (by rfl)
  have p0 := RP1.out.cell (i := 0) (by rfl)
  have p1 := RP1.out.cell (i := 1) (by rfl)
  clear hb hv
  cases q
  · have HN : Hid (¬ itemHas ss a b) := Lib.hid (fun h => by have := HV.out.2 h.1; cases this)
    go_wp2
    go_ret2
    exact .inl ⟨HN.out, _, rfl, HB.out.alloc HB.out.size _⟩
  · have HVV := Lib.hid (HV.out.1 rfl)
    have C2 := Lib.hid (specHas_any ss HF.out oa cap a b _ (HC.out.below HB.out (Nat.le_refl _)))
    go_wp2_with fail
    refine C2.out.mono ?_
    rintro e w2 ⟨rfl, hb2⟩
    have HB2 := Lib.hid (HB.out.trans (hb2.mono HB.out.size))
    have RG2 := Lib.hid (RG1.out.below hb2 RG1.out.lt)
    have RP2 := Lib.hid (RP1.out.below hb2 RP1.out.lt)
    have g2 := RG2.out.cell (i := 0) (by rfl)
    have q0 := RP2.out.cell (i := 0) (by rfl)
    have q1 := RP2.out.cell (i := 1) (by rfl)
    clear hb2 g1 p0 p1
    have hcase : itemAtP ss a b = none ∨ ∃ x, itemAtP ss a b = some x := by cases itemAtP ss a b <;> simp
    rcases hcase with hx | ⟨x, hx⟩
    · have HN : Hid (¬ itemHas ss a b) := Lib.hid (fun h => by have := h.2; rw [hx] at this; cases this)
      rw [hx]
      clear hx
      simp only [Option.isSome_none]
      go_wp2
      go_ret2
      exact .inl ⟨HN.out, _, rfl, HB2.out.alloc HB2.out.size _⟩
    · obtain ⟨i, j, rfl, rfl, hq⟩ := item_placed hx
      have HM := Lib.hid (meanAt_of hq)
      have HH := Lib.hid (itemHas_of HVV.out hq)
      have C3 := Lib.hid (specResolve_any ss HVV.out HF.out oa cap hq _ (HC.out.below HB2.out (Nat.le_refl _)))
      rw [hx]
      clear hx hq
      simp only [Option.isSome_some]
      go_wp2_with fail
      refine C3.out.mono ?_
      rintro e w3 ⟨u, rfl, hu, hb3⟩
      have HB3 := Lib.hid (HB2.out.trans (hb3.mono HB2.out.size))
      have HU := Lib.hid (ownsRow_lower hu HB2.out.size)
      clear hb3 hu
      go_wp2
      go_ret2
      exact .inr ⟨HH.out, u, rfl, by rw [HM.out]; exact HU.out, HB3.out⟩
theorem meanAt_short {ss : List Sc} {a b : Int} (h : itemHas ss a b) : (meanAt ss a b).length ≤ 1000 := by
  obtain ⟨hva, hs⟩ := h
  obtain ⟨x, hx⟩ := Option.isSome_iff_exists.1 hs
  unfold meanAt
  rw [hx]
  have := meanIt_length hva (a.toNat, b.toNat, x)
  show (meanIt ss (a.toNat, b.toNat, x)).length ≤ 1000
  omega
theorem alone_neg {ss : List Sc} (hv : Valid ss) {p : Int × Int} {i j : Nat} {c : Sc} {y : It} (hp : p = ((i : Int), (j : Int))) (hc : ss[i]? = some c) (hy : c.items[j]? = some y) : aloneP ss [p] = y.scope ∧ (y.scope < 0 ↔ y.scope = -1) := by
  subst hp
  refine ⟨scopeAt_of hc hy, ?_⟩
  rcases scope_ok hv (placed_of hc hy) with h | ⟨m, h, _⟩ <;> dsimp only at h <;> omega
set_option maxRecDepth 100000 in
set_option maxHeartbeats 4000000 in
theorem specStateOf_any (ss : List Sc) (hf : FitsScopes ss) (oa : Option Addr) (cap : Nat) (a b : Int) (w : World) (hc : HoldsScopes w oa ss) :
    Calls Tryd.prog 64 #[.agg #[.slice oa ss.length cap], .agg #[.int .i64 a, .int .i64 b]] w (StGot ss a b w) := by
  have hb0 : Below w.heap.size w ((w.alloc (.cells #[.slice oa ss.length cap] 30)).alloc (.cells #[.int .i64 a, .int .i64 b] 34)) := ((Below.refl _ _).alloc (Nat.le_refl _) _).alloc (by simp) _
  have RG := Lib.hid ((Row.new w [.slice oa ss.length cap] 30).alloc (.cells #[.int .i64 a, .int .i64 b] 34))
  have RP : Hid (Row ((w.alloc (.cells #[.slice oa ss.length cap] 30)).alloc (.cells #[.int .i64 a, .int .i64 b] 34)) (w.heap.size + 1) 34 [.int .i64 a, .int .i64 b]) := Lib.hid (by
    have := Row.new (w.alloc (.cells #[.slice oa ss.length cap] 30)) [.int .i64 a, .int .i64 b] 34
    rw [World.size_alloc] at this
    exact this)
  have C := Lib.hid (specResolveItem_any ss hf oa cap a b _ (hc.below hb0 (Nat.le_refl _)))
  have HB0 := Lib.hid hb0
  have HC := Lib.hid hc
  have HF := Lib.hid hf
  clear hf hc hb0
  go_enter Tryd.func64, Tryd.ntmps64
  go_wp2_with fail
  refine C.out.mono ?_
  rintro e w1 (⟨hn, g, rfl, hb⟩ | ⟨hh, u, rfl, hu, hb⟩)
  · have HB := Lib.hid (HB0.out.trans (hb.mono HB0.out.size))
    have HN := Lib.hid hn
    clear hb hn
    go_wp2
    go_ret
    exact ⟨_, rfl, .inr ⟨HN.out, rfl⟩, HB.out⟩
  · obtain ⟨hv, his⟩ := hh
    obtain ⟨x, hx⟩ := Option.isSome_iff_exists.1 his
    obtain ⟨i, j, rfl, rfl, hq⟩ := item_placed hx
    rw [meanAt_of hq] at hu
    obtain ⟨ou, cu, rfl, harg⟩ := argPlaces_of_owns hu
    have HB := Lib.hid (HB0.out.trans (hb.mono HB0.out.size))
    have RG1 := Lib.hid (RG.out.below hb RG.out.lt)
    have RP1 := Lib.hid (RP.out.below hb RP.out.lt)
    have HQ := Lib.hid hq
    have HV := Lib.hid hv
    have HA := Lib.hid harg
    have HIP := Lib.hid (meanIt_isPlace hq)
    have HST : Hid (stateIt ss (i, j, x) = if (meanIt ss (i, j, x)).length = 0 then 2 else if 1 < (meanIt ss (i, j, x)).length then 3 else if x.kind = 3 ∧ aloneP ss (meanIt ss (i, j, x)) = -1 then 4 else 1) := Lib.hid rfl
    have HG : ∀ z, z = stateIt ss (i, j, x) → StVal ss (i : Int) (j : Int) z := fun z hz => .inl ⟨hv, i, j, x, rfl, rfl, hq, hz⟩
    have HGG := Lib.hid HG
    clear hb his hx hu harg hq hv HG
    generalize meanIt ss (i, j, x) = ml at *
    by_cases h0 : ml.length = 0
    · have HE : Hid (stateIt ss (i, j, x) = 2) := Lib.hid (by rw [HST.out, if_pos h0])
      have k0 : ((ml.length : Int) == 0) = true := by rw [h0]; rfl
      clear h0
      go_wp2
      go_ret
      exact ⟨_, rfl, HGG.out _ HE.out.symm, HB.out⟩
    · have k0 : ((ml.length : Int) == 0) = false := beq_eq_false_iff_ne.2 (by omega)
      by_cases h1 : 1 < ml.length
      · have HE : Hid (stateIt ss (i, j, x) = 3) := Lib.hid (by rw [HST.out, if_neg h0, if_pos h1])
        have k1 : (1 : Int) < (ml.length : Int) := by omega
        clear h0 h1
        go_wp2
        go_ret
        exact ⟨_, rfl, HGG.out _ HE.out.symm, HB.out⟩
      · have k1 : ¬ (1 : Int) < (ml.length : Int) := by omega
        have hone : ml.length = 1 := by omega
        obtain ⟨p, rfl⟩ := List.length_eq_one_iff.1 hone
        obtain ⟨c, hsc, hjx⟩ := placed_at HQ.out
        dsimp only at hsc hjx
        obtain ⟨i2, j2, c2, y, hpe, hc2, hy2⟩ := HIP.out p (List.mem_singleton.2 rfl)
        have hneg := alone_neg HV.out hpe hc2 hy2
        obtain ⟨b5, f5, rfl, hb5, q5⟩ := HA.out.at (by simp)
        obtain ⟨r0, r1⟩ := q5 0 p (by rfl)
        rw [Nat.zero_mul, Nat.add_zero] at r0 r1
        subst hpe
        dsimp only at r0 r1
        have g1 := cell_regrown (RG1.out.cell (i := 0) (by rfl))
        have p0 := cell_regrown (RP1.out.cell (i := 0) (by rfl))
        have p1 := cell_regrown (RP1.out.cell (i := 1) (by rfl))
        have e0 := cell_regrown r0
        have e1 := cell_regrown r1
        have HEND : ∀ dq osq, Below w.heap.size w (Sort.grow (redrawn w1 dq) osq) := fun dq osq => HB.out.trans ((below_regrown w1 dq osq).mono HB.out.size)
        have D1 : ∀ d os, Calls Tryd.prog 116 #[.agg #[.slice oa ss.length cap], .agg #[.int .i64 (i : Int), .int .i64 (j : Int)]] (Sort.grow (redrawn w1 d) os) fun e w'' => e = .returned (.agg #[.int .i64 x.kind, .string x.name, .int .i64 x.scope]) ∧ ∃ q : Regrown, w'' = Sort.grow (redrawn w1 q.d) q.os :=
          fun d os => Calls.regrown_of (specAt_any ss HF.out oa cap i j c x hsc hjx _ (HC.out.below (HEND d os) (Nat.le_refl _)))
        have D2 : ∀ d os, Calls Tryd.prog 116 #[.agg #[.slice oa ss.length cap], .agg #[.int .i64 (i2 : Int), .int .i64 (j2 : Int)]] (Sort.grow (redrawn w1 d) os) fun e w'' => e = .returned (.agg #[.int .i64 y.kind, .string y.name, .int .i64 y.scope]) ∧ ∃ q : Regrown, w'' = Sort.grow (redrawn w1 q.d) q.os :=
          fun d os => Calls.regrown_of (specAt_any ss HF.out oa cap i2 j2 c2 y hc2 hy2 _ (HC.out.below (HEND d os) (Nat.le_refl _)))
        have HENDH := Lib.hid HEND
        have k0' : ((([((i2 : Int), (j2 : Int))] : List (Int × Int)).length : Int) == 0) = false := by rfl
        clear HEND q5 hsc hjx hc2 hy2 h0 h1 r0 r1 hone
        by_cases hk : x.kind = 3
        · have hq3 : (x.kind == 3) = true := by simpa using hk
          by_cases ha : y.scope = -1
          · have HE : Hid (stateIt ss (i, j, x) = 4) := Lib.hid (by rw [HST.out, if_neg (by simp), if_neg (by simp), if_pos ⟨hk, by rw [hneg.1]; exact ha⟩])
            have ka : y.scope < 0 := by omega
            clear hk ha hneg
            go_wp2
            refine wp_region_quiet_below (by kernel_rfl) (by kernel_rfl) ?_
            repeat (first | go_big_quiet_step (with_reducible first | exact D1 _ _ | exact D2 _ _) | quiet_step (with_reducible first | exact D1 _ _ | exact D2 _ _))
            refine wpQuiet_nil ?_
            intro _ hw'
            obtain ⟨⟨dq, osq⟩, hw''⟩ := hw'
            subst hw''
            have HBE := Lib.hid (HENDH.out dq osq)
            go_wp2
            go_ret
            exact ⟨_, rfl, HGG.out _ HE.out.symm, HBE.out⟩
          · have HE : Hid (stateIt ss (i, j, x) = 1) := Lib.hid (by rw [HST.out, if_neg (by simp), if_neg (by simp), if_neg (fun h => ha (by rw [← hneg.1]; exact h.2))])
            have ka : ¬ y.scope < 0 := fun h => ha (hneg.2.1 h)
            clear hk ha hneg
            go_wp2
            refine wp_region_quiet_below (by kernel_rfl) (by kernel_rfl) ?_
            repeat (first | go_big_quiet_step (with_reducible first | exact D1 _ _ | exact D2 _ _) | quiet_step (with_reducible first | exact D1 _ _ | exact D2 _ _))
            refine wpQuiet_nil ?_
            intro _ hw'
            obtain ⟨⟨dq, osq⟩, hw''⟩ := hw'
            subst hw''
            have HBE := Lib.hid (HENDH.out dq osq)
            go_wp2
            go_ret
            exact ⟨_, rfl, HGG.out _ HE.out.symm, HBE.out⟩
        · have hq3 : (x.kind == 3) = false := by simpa using hk
          have HE : Hid (stateIt ss (i, j, x) = 1) := Lib.hid (by rw [HST.out, if_neg (by simp), if_neg (by simp), if_neg (fun h => hk h.1)])
          clear hk hneg D2
          go_wp2
          refine wp_region_quiet_below (by kernel_rfl) (by kernel_rfl) ?_
          repeat (first | go_big_quiet_step (exact D1 _ _) | quiet_step (exact D1 _ _))
          refine wpQuiet_nil ?_
          intro _ hw'
          obtain ⟨⟨dq, osq⟩, hw''⟩ := hw'
          subst hw''
          have HBE := Lib.hid (HENDH.out dq osq)
          go_wp2
          go_ret
          exact ⟨_, rfl, HGG.out _ HE.out.symm, HBE.out⟩
end Go.Proofs.YtppgdigcopkeiaaDoor
namespace Go.Proofs.YtppgdigcopkeiaaDoor
open Go Go.RowKit Go.Maps
theorem placed_weight : ∀ (i : Nat) (ss : List Sc), (placed i ss).length ≤ wScopes ss
  | _, [] => by simp [placed]
  | i, s :: r => by
    have ih := placed_weight (i + 1) r
    have h1 := wItems_eq s.items
    simp only [placed, List.length_append, List.length_map, List.length_zipIdx, wScopes]
    omega
/-- The places of all items. -/
def plsAll (l : List (Nat × Nat × It)) : List (Int × Int) := l.map fun q => ((q.1 : Int), (q.2.1 : Int))
theorem plsAll_snoc (l : List (Nat × Nat × It)) (q : Nat × Nat × It) : plsAll (l ++ [q]) = plsAll l ++ [((q.1 : Int), (q.2.1 : Int))] := by unfold plsAll; rw [List.map_append]; rfl
theorem plsAll_length (l : List (Nat × Nat × It)) : (plsAll l).length = l.length := by unfold plsAll; rw [List.length_map]
theorem plsAll_at {l : List (Nat × Nat × It)} {k : Nat} {q : Nat × Nat × It} (h : l[k]? = some q) : (plsAll l)[k]? = some ((q.1 : Int), (q.2.1 : Int)) := by unfold plsAll; rw [List.getElem?_map, h]; rfl
set_option maxRecDepth 100000 in
set_option maxHeartbeats 1600000 in
theorem l4Items_any (ss : List Sc) (hl : ss.length ≤ 1048576) (hm : ∀ s ∈ ss, s.items.length ≤ 1048576) (hN : (placed 0 ss).length ≤ 1048576) (oa : Option Addr) (cap : Nat) (w : World) (hc : HoldsScopes w oa ss) :
    Calls Tryd.prog 124 #[.agg #[.slice oa ss.length cap]] w (PlsGot (plsAll (placed 0 ss)) w) := by
  have hb0 := ((Below.refl w.heap.size w).alloc (Nat.le_refl _) (.cells #[.slice oa ss.length cap] 30)).alloc (by simp) (.cells #[] 34)
  have hR0 := (Row.new w [.slice oa ss.length cap] 30).alloc (.cells #[] 34)
  have hown0 : ((w.alloc (.cells #[.slice oa ss.length cap] 30)).alloc (.cells #[] 34)).ownsRow w.heap.size 34 2 (.slice (some ⟨w.heap.size + 1, 0, none⟩) 0 0) 0 [] := by
    have h0 := World.ownsRow_made (base := w.heap.size) (e := 34) (size := 2) (w.alloc (.cells #[.slice oa ss.length cap] 30)) #[] 0 (by simp) (by unfold maxLen; omega) rfl
    rw [World.size_alloc] at h0
    exact h0
  have HP0 : Hid (PlsAt w ((w.alloc (.cells #[.slice oa ss.length cap] 30)).alloc (.cells #[] 34)) oa cap ss.length (.slice (some ⟨w.heap.size + 1, 0, none⟩) 0 0) []) := Lib.hid ⟨hR0, hown0, hb0⟩
  have HC := Lib.hid hc
  have HM := Lib.hid hm
  have HN := Lib.hid hN
  have g00 := hR0.cell (i := 0) (by rfl)
  clear hc hm hb0 hR0 hown0 hN
  go_enter Tryd.func124, Tryd.ntmps124
  go_wp2
  go_loopw [3, 11] (fun v i wr => ∃ k : Nat, i = .int .i64 k ∧ k ≤ ss.length ∧ Hid (PlsAt w wr oa cap ss.length v (plsAll (uptoP ss k 0)))) (fun _ i _ => ss.length - (intOf i).toNat)
  case atStart => exact ⟨0, rfl, Nat.zero_le _, Lib.hid (by rw [uptoP_start]; exact HP0.out)⟩
  case round =>
    obtain ⟨k, rfl, hk, hP⟩ := hrel
    by_cases hlt : k < ss.length
    · obtain ⟨s, hs⟩ : ∃ s, ss[k]? = some s := ⟨_, List.getElem?_eq_getElem hlt⟩
      obtain ⟨bb, off, rfl, hbb, hcell⟩ := HC.out.at (by omega)
      obtain ⟨oi, ci, a0, a1, hci⟩ := hcell k s hs
      have hil := HM.out s (List.mem_of_getElem? hs)
      have b0 := (hP.out.below.cell (p := ⟨bb, off + k * 2, none⟩) hbb).trans a0
      have b1 := (hP.out.below.cell (p := ⟨bb, off + k * 2 + 1, none⟩) hbb).trans a1
      have HS := Lib.hid hs
      have hbx := (Below.refl wr.heap.size wr).alloc (Nat.le_refl _) (.cells #[.int .i64 s.parent, .slice oi s.items.length ci] 69)
      have HP1 := Lib.hid (hP.out.step hbx)
      have hwr := hP.out.below.size
      clear hs hcell hci a0 a1 hbx
      go_wp2
      go_loopw [3, 19] (fun v i wr => ∃ j : Nat, i = .int .i64 j ∧ j ≤ s.items.length ∧ Hid (PlsAt w wr (some ⟨bb, off, none⟩) cap ss.length v (plsAll (uptoP ss k j)))) (fun _ i _ => s.items.length - (intOf i).toNat)
      case atStart => exact ⟨0, rfl, Nat.zero_le _, HP1⟩
      case round =>
        obtain ⟨j, rfl, hj, hP2⟩ := hrel
        by_cases hlt2 : j < s.items.length
        · obtain ⟨x, hx⟩ : ∃ x, s.items[j]? = some x := ⟨_, List.getElem?_eq_getElem hlt2⟩
          have HNX := Lib.hid (uptoP_next HS.out hx)
          have hpl : (plsAll (uptoP ss k j)).length ≤ 1048576 := by rw [plsAll_length]; exact Nat.le_trans (uptoP_prefix (j := j) HS.out).length_le HN.out
          have HE : Hid (plsAll (uptoP ss k (j + 1)) = plsAll (uptoP ss k j) ++ [((k : Int), (j : Int))]) := Lib.hid (by rw [HNX.out, plsAll_snoc])
          generalize hpe : plsAll (uptoP ss k j) = pre at hpl
          have HP3 : Hid (PlsAt w _ (some ⟨bb, off, none⟩) cap ss.length _ pre) := Lib.hid (by have := hP2.out; rw [hpe] at this; exact this)
          rw [hpe] at HE
          have hrow3 := HP3.out.row
          obtain ⟨i0, hi0, hz0, hz1, hz2⟩ := info_parts infoPl
          have hbs3 := HP3.out.below.size
          clear hpe hx
          go_wp2_with (at_builtin; refine wpList_append_own _ rfl _ _ 39 rfl w.heap.size 34 i0 (.agg #[.int .i64 0, .int .i64 0]) 2 16 Tryd.underlying39 hi0 hz0 hz1 hz2 rfl (by decide) _ _ _ rfl (hrow3.alloc _) ⟨_, 0, none⟩ 1 1 [.int .i64 (k : Int), .int .i64 (j : Int)] rfl rfl ?c1 ?c2 ?c3 ?c4 ?c5 ?_)
          all_goals try (case c1 => exact cells_new2 _ _ _ _)
          all_goals try (case c2 => first | (exact ⟨rfl, rfl⟩) | (intro u hu; simp only [List.mem_cons, List.mem_nil_iff, or_false] at hu; rcases hu with rfl | rfl <;> rfl))
          all_goals try (case c3 => unfold maxLen; omega)
          all_goals try (case c4 => omega)
          all_goals try (case c5 => first | omega | (simp only [World.size_alloc]; omega) | (simp; omega))
          intro v' w' hown' hgrow _
          have HP4 : Hid (PlsAt w w' (some ⟨bb, off, none⟩) cap ss.length v' (plsAll (uptoP ss k (j + 1)))) := Lib.hid {
            box := (HP3.out.box.alloc (.cells #[.int .i64 (k : Int), .int .i64 (j : Int)] 34)).grown hgrow (ownsRow_ne2 HP3.out.box (by decide) HP3.out.row)
            row := by rw [HE.out, List.length_append, placeCells_snoc]; exact hown'
            below := HP3.out.below.trans (below_append2 HP3.out.row hgrow (Nat.le_refl w.heap.size) hbs3) }
          clear hown' hgrow hrow3
          go_wp2
          go_roundw
          case rel => exact ⟨j + 1, by go_num, by omega, HP4⟩
          case measure => simp only [intOf]; omega
        · obtain rfl : j = s.items.length := by omega
          have HP2 : Hid (PlsAt w _ (some ⟨bb, off, none⟩) cap ss.length _ (plsAll (uptoP ss (k + 1) 0))) := Lib.hid (by have := hP2.out; rw [uptoP_scope HS.out] at this; exact this)
          go_wp2
          go_roundw
          case rel => exact ⟨k + 1, by go_num, by omega, HP2⟩
          case measure => simp only [intOf]; omega
    · obtain rfl : k = ss.length := by omega
      have HE := Lib.hid (uptoP_all ss)
      go_wp2
      go_ret
      exact ⟨_, rfl, by have := hP.out.row; rw [HE.out] at this; exact this, hP.out.below⟩
/-- One place appended, and where the longer list lies. -/
theorem append_place_at {W : World} {base k : Nat} {v : Value} {xs : List Value} (hrow : W.ownsRow base 34 2 v k xs) (x y : Int) (hk : k < 1000000) (hbase : base ≤ W.heap.size) (ty : TypeId) :
    ∃ v' w', (Builtin.append_ #[39, 39] ty #[v, .slice (some ⟨W.heap.size, 0, none⟩) 1 1]).run Tryd.prog (W.alloc (.cells #[.int .i64 x, .int .i64 y] 34)) = .ok v' w' ∧ w'.ownsRow base 34 2 v' (k + 1) (xs ++ [.int .i64 x, .int .i64 y]) ∧ (W.alloc (.cells #[.int .i64 x, .int .i64 y] 34)).grownBy w' v.ownBlock ∧ (v'.ownBlock = v.ownBlock ∨ v'.ownBlock = some (W.heap.size + 1)) := by
  obtain ⟨i0, hi, hz0, hz1, hz2⟩ := info_parts infoPl
  obtain ⟨v', w', hrun, h2, h3, _, h5⟩ := run_append_own_at (P := Tryd.prog) (W.alloc (.cells #[.int .i64 x, .int .i64 y] 34)) base 39 ty 34 i0 (.agg #[.int .i64 0, .int .i64 0]) 2 16 Tryd.underlying39 hi hz0 hz1 hz2 rfl (by decide) v k xs (hrow.alloc _) ⟨W.heap.size, 0, none⟩ 1 1 [.int .i64 x, .int .i64 y] rfl (cells_new2 W _ _ _)
    (by intro u hu; simp only [List.mem_cons, List.mem_nil_iff, or_false] at hu; rcases hu with rfl | rfl <;> rfl) (by unfold maxLen; omega) (by omega) (by show base ≤ (W.alloc _).heap.size; simp; omega)
  exact ⟨v', w', hrun, h2, h3, by simpa using h5⟩
/-- At the head of a round over a list of places: the graph's box, the list in the making, the list that is gone through. -/
structure ItemsAt (w wr : World) (oa : Option Addr) (cap n b2 : Nat) (v tl : Value) (l all : List (Int × Int)) : Prop where
  box : Row wr w.heap.size 30 [.slice oa n cap]
  row : wr.ownsRow w.heap.size 34 2 v l.length (placeCells l)
  lst : wr.ownsRow b2 34 2 tl all.length (placeCells all)
  far : tl = .slice none 0 0 ∨ tl.ownBlock ≠ v.ownBlock
  below : Below w.heap.size w wr
theorem ItemsAt.step {w wr w' : World} {oa : Option Addr} {cap n b2 : Nat} {v tl : Value} {l all : List (Int × Int)} (h : ItemsAt w wr oa cap n b2 v tl l all) (hb : Below wr.heap.size wr w') : ItemsAt w w' oa cap n b2 v tl l all where
  box := h.box.below hb h.box.lt
  row := ownsRow_below h.row hb
  lst := ownsRow_below h.lst hb
  far := h.far
  below := h.below.trans (hb.mono h.below.size)
theorem ownsRow_lt {w : World} {B n size g : Nat} {e : TypeId} {u : Value} {xs : List Value} (h : w.ownsRow B e size u n xs) (hg : u.ownBlock = some g) : g < w.heap.size := (h.lt g hg).2
theorem ItemsAt.snoc {w W w' : World} {oa : Option Addr} {cap n b2 : Nat} {v v' tl : Value} {l all : List (Int × Int)} {x y : Int} (h : ItemsAt w W oa cap n b2 v tl l all)
    (hown : w'.ownsRow w.heap.size 34 2 v' (l.length + 1) (placeCells l ++ [.int .i64 x, .int .i64 y])) (hg : (W.alloc (.cells #[.int .i64 x, .int .i64 y] 34)).grownBy w' v.ownBlock) (hb : v'.ownBlock = v.ownBlock ∨ v'.ownBlock = some (W.heap.size + 1)) :
    ItemsAt w w' oa cap n b2 v' tl (l ++ [(x, y)]) all where
  box := (h.box.alloc _).grown hg (ownsRow_ne2 h.box (by decide) h.row)
  row := by rw [List.length_append, placeCells_snoc]; exact hown
  lst := (h.lst.alloc _).kept hg (h.far.imp (fun e => by rw [e]; rfl) id)
  far := by
    rcases hb with hb | hb
    · rw [hb]; exact h.far
    · rw [hb]
      rcases h.far with h1 | _
      · exact .inl h1
      · exact .inr fun e => by have := ownsRow_lt h.lst e; omega
  below := h.below.trans (below_append2 h.row hg (Nat.le_refl _) h.below.size)
theorem stVal_is {ss : List Sc} (hv : Valid ss) {i j : Nat} {x : It} (hq : (i, j, x) ∈ placed 0 ss) {z : Int} (h : StVal ss (i : Int) (j : Int) z) : z = stateIt ss (i, j, x) := h.same (.inl ⟨hv, i, j, x, rfl, rfl, hq, rfl⟩)
set_option maxRecDepth 100000 in
set_option maxHeartbeats 4000000 in
theorem specItemsIn_any (ss : List Sc) (hf : FitsScopes ss) (oa : Option Addr) (cap : Nat) (z : Int) (w : World) (hc : HoldsScopes w oa ss) :
    Calls Tryd.prog 70 #[.agg #[.slice oa ss.length cap], .int .i64 z] w (PlGot2 (stOk ss z) (stsP ss z) w) := by
  have hb0 : Below w.heap.size w ((w.alloc (.cells #[.slice oa ss.length cap] 30)).alloc (.cells #[] 34)) := ((Below.refl _ _).alloc (Nat.le_refl _) _).alloc (by simp) _
  have RG := Lib.hid ((Row.new w [.slice oa ss.length cap] 30).alloc (.cells #[] 34))
  have hown0 : ((w.alloc (.cells #[.slice oa ss.length cap] 30)).alloc (.cells #[] 34)).ownsRow w.heap.size 34 2 (.slice (some ⟨w.heap.size + 1, 0, none⟩) 0 0) 0 [] := by
    have h0 := World.ownsRow_made (base := w.heap.size) (e := 34) (size := 2) (w.alloc (.cells #[.slice oa ss.length cap] 30)) #[] 0 (by simp) (by unfold maxLen; omega) rfl
    rw [World.size_alloc] at h0
    exact h0
  have C := Lib.hid (specValid_any ss oa cap _ hf (hc.below hb0 (Nat.le_refl _)))
  have HO0 := Lib.hid hown0
  have HB0 := Lib.hid hb0
  have HC := Lib.hid hc
  have HF := Lib.hid hf
  have g0 := RG.out.cell (i := 0) (by rfl)
  clear hf hc hb0 hown0
  go_enter Tryd.func70, Tryd.ntmps70
  go_wp2_with fail
  refine C.out.mono ?_
  rintro e w1 ⟨q, rfl, hv, hb⟩
  have HB := Lib.hid (HB0.out.trans (hb.mono HB0.out.size))
  have RG1 := Lib.hid (RG.out.below hb RG.out.lt)
  have HO1 := Lib.hid (ownsRow_below HO0.out hb)
  have HS1 : Hid (w.heap.size + 1 + 1 ≤ w1.heap.size) := Lib.hid (by have := hb.size; simpa using this)
  have g1 := RG1.out.cell (i := 0) (by rfl)
  have HV := Lib.hid hv
  clear hb hv g0
  cases q
  · have HN : Hid (¬ stOk ss z) := Lib.hid (fun h => by have := HV.out.2 h.1; cases this)
    go_wp2
    go_ret2
    exact .inl ⟨HN.out, _, rfl, HB.out⟩
  · have HVV := Lib.hid (HV.out.1 rfl)
    go_wp2_with fail
    refine (l1In_any z 1 4 _).mono ?_
    rintro e w2 ⟨rfl, rfl⟩
    obtain ⟨q, hq⟩ : ∃ q, inB z 1 4 = q := ⟨_, rfl⟩
    rw [hq]
    have HQ := Lib.hid hq
    clear hq
    cases q
    · have HN : Hid (¬ stOk ss z) := Lib.hid (fun h => by have := HQ.out; rw [h.2] at this; cases this)
      go_wp2
      go_ret2
      exact .inl ⟨HN.out, _, rfl, HB.out⟩
    · have h30 := placed_bound 0 ss 6 5 HVV.out.count.2 HVV.out.five
      have C3 := Lib.hid (l4Items_any ss (by have := HVV.out.count.2; omega) (fun s hs => by have := HVV.out.five s hs; omega) (by omega) oa cap _ (HC.out.below HB.out (Nat.le_refl _)))
      go_wp2_with fail
      refine C3.out.mono ?_
      rintro e w3 ⟨tl, rfl, htl, hb3⟩
      have hfar : tl = .slice none 0 0 ∨ tl.ownBlock ≠ (Value.slice (some ⟨w.heap.size + 1, 0, none⟩) 0 0).ownBlock := by
        rcases htl.2 with h1 | ⟨g, cp, cur, rfl, hgB, _⟩
        · exact .inl h1.1
        · refine .inr fun e => ?_
          simp only [Value.ownBlock, Option.some.injEq] at e
          have := HS1.out
          omega
      have HI3 : Hid (ItemsAt w w3 oa cap ss.length w2.heap.size (.slice (some ⟨w.heap.size + 1, 0, none⟩) 0 0) tl [] (plsAll (placed 0 ss))) := Lib.hid ⟨RG1.out.below hb3 RG1.out.lt, ownsRow_below HO1.out hb3, htl, hfar, HB.out.trans (hb3.mono HB.out.size)⟩
      obtain ⟨ot, ct, rfl, hat⟩ := argPlaces_of_owns htl
      have HLN : Hid ((plsAll (placed 0 ss)).length = (placed 0 ss).length) := Lib.hid (plsAll_length _)
      have hln : (plsAll (placed 0 ss)).length ≤ 30 := by rw [plsAll_length]; exact h30
      clear hb3 htl hat g1 hfar
      go_wp2
      go_loopw [6, 22] (fun v i wr => ∃ k : Nat, i = .int .i64 k ∧ k ≤ (plsAll (placed 0 ss)).length ∧ Hid (ItemsAt w wr oa cap ss.length w2.heap.size v (.slice ot (plsAll (placed 0 ss)).length ct) (stsOf ss z ((placed 0 ss).take k)) (plsAll (placed 0 ss)))) (fun _ i _ => (plsAll (placed 0 ss)).length - (intOf i).toNat)
      case atStart => exact ⟨0, rfl, Nat.zero_le _, HI3⟩
      case round =>
        obtain ⟨k, rfl, hk, hP⟩ := hrel
        by_cases hlt : k < (plsAll (placed 0 ss)).length
        · obtain ⟨⟨i, j, x⟩, hqk⟩ : ∃ q, (placed 0 ss)[k]? = some q := ⟨_, List.getElem?_eq_getElem (by rw [HLN.out] at hlt; exact hlt)⟩
          have hqm := List.mem_of_getElem? hqk
          obtain ⟨o', c', he', hat⟩ := argPlaces_of_owns hP.out.lst
          cases he'
          obtain ⟨b5, f5, rfl, hb5, q5⟩ := hat.at (by omega)
          obtain ⟨r0, r1⟩ := q5 k ((i : Int), (j : Int)) (plsAll_at hqk)
          have hba := (Below.refl wr.heap.size wr).alloc (Nat.le_refl _) (.cells #[.int .i64 (i : Int), .int .i64 (j : Int)] 34)
          have HPA := Lib.hid (hP.out.step hba)
          have g4 := HPA.out.box.cell (i := 0) (by rfl)
          have RPB := Lib.hid (Row.new wr [.int .i64 (i : Int), .int .i64 (j : Int)] 34)
          have HST : Hid (stsOf ss z ((placed 0 ss).take (k + 1)) = stsOf ss z ((placed 0 ss).take k) ++ if stateIt ss (i, j, x) = z then [((i : Int), (j : Int))] else []) := Lib.hid (by rw [List.take_add_one, hqk]; exact stsOf_snoc ss z _ _)
          have C4 := Lib.hid (specStateOf_any ss HF.out oa cap (i : Int) (j : Int) _ (HC.out.below HPA.out.below (Nat.le_refl _)))
          have HQM := Lib.hid hqm
          have hsl : (stsOf ss z ((placed 0 ss).take k)).length < 1000000 := by
            have h1 := stsOf_length ss z ((placed 0 ss).take k)
            rw [List.length_take] at h1
            omega
          clear hba q5 hat hqk hqm
          go_wp2_with fail
          refine C4.out.mono ?_
          rintro e w5 ⟨zz, rfl, hz, hb6⟩
          have HP5 := Lib.hid (HPA.out.step hb6)
          have RP5 := Lib.hid (RPB.out.below hb6 RPB.out.lt)
          have p0 := RP5.out.cell (i := 0) (by rfl)
          have p1 := RP5.out.cell (i := 1) (by rfl)
          have HZ := Lib.hid (stVal_is HVV.out HQM.out hz)
          have HSZ := Lib.hid (Nat.le_trans HPA.out.below.size hb6.size)
          clear hb6 hz g4 r0 r1
          by_cases he : zz = z
          · have hq : (zz == z) = true := by simpa using he
            have HE : Hid (stsOf ss z ((placed 0 ss).take (k + 1)) = stsOf ss z ((placed 0 ss).take k) ++ [((i : Int), (j : Int))]) := Lib.hid (by rw [HST.out, if_pos (by rw [← HZ.out]; exact he)])
            obtain ⟨v', w7, hrun, hown', hgrow, hbl⟩ := append_place_at HP5.out.row (i : Int) (j : Int) hsl HSZ.out 39
            have HP7 : Hid (ItemsAt w w7 oa cap ss.length w2.heap.size v' _ (stsOf ss z ((placed 0 ss).take (k + 1))) (plsAll (placed 0 ss))) := Lib.hid (by rw [HE.out]; exact HP5.out.snoc hown' hgrow hbl)
            have HRUN := Lib.hid hrun
            clear hown' hgrow hbl hrun he
            go_wp2_with (at_builtin; refine wpList_append_run rfl _ _ 39 rfl HRUN.out ?_)
            go_wp2
            go_roundw
            case rel => exact ⟨k + 1, by go_num, by omega, HP7⟩
            case measure => simp only [intOf]; omega
          · have hq : (zz == z) = false := by simpa using he
            have HE : Hid (stsOf ss z ((placed 0 ss).take (k + 1)) = stsOf ss z ((placed 0 ss).take k)) := Lib.hid (by rw [HST.out, if_neg (by rw [← HZ.out]; exact he), List.append_nil])
            clear he
            go_wp2
            go_roundw
            case rel => exact ⟨k + 1, by go_num, by omega, by rw [HE.out]; exact HP5⟩
            case measure => simp only [intOf]; omega
        · obtain rfl : k = (plsAll (placed 0 ss)).length := by omega
          have HE : Hid ((placed 0 ss).take (plsAll (placed 0 ss)).length = placed 0 ss) := Lib.hid (by rw [HLN.out, List.take_length])
          go_wp2
          go_ret2
          exact .inr ⟨⟨HVV.out, HQ.out⟩, _, rfl, by have := hP.out.row; rw [HE.out] at this; exact this, hP.out.below⟩
set_option maxRecDepth 100000 in
set_option maxHeartbeats 4000000 in
theorem specIsSound_any (ss : List Sc) (hl : ss.length ≤ 1048576) (hm : ∀ s ∈ ss, s.items.length ≤ 1048576) (hN : (placed 0 ss).length ≤ 1048576) (hf : FitsScopes ss) (oa : Option Addr) (cap : Nat) (w : World) (hc : HoldsScopes w oa ss) :
    Calls Tryd.prog 72 #[.agg #[.slice oa ss.length cap]] w fun e w' => ∃ b, e = .returned (.bool b) ∧ SoundVal ss b ∧ Below w.heap.size w w' := by
  have hb0 := (Below.refl w.heap.size w).alloc (Nat.le_refl _) (.cells #[.slice oa ss.length cap] 30)
  have RG := Lib.hid (Row.new w [.slice oa ss.length cap] 30)
  have C := Lib.hid (l4Items_any ss hl hm hN oa cap _ (hc.below hb0 (Nat.le_refl _)))
  have HB0 := Lib.hid hb0
  have HC := Lib.hid hc
  have HF := Lib.hid hf
  have HLN : Hid ((plsAll (placed 0 ss)).length = (placed 0 ss).length) := Lib.hid (plsAll_length _)
  have hln : (plsAll (placed 0 ss)).length ≤ 1048576 := by rw [plsAll_length]; exact hN
  clear hf hc hb0 hl hm hN
  go_enter Tryd.func72, Tryd.ntmps72
  go_wp2_with fail
  refine C.out.mono ?_
  rintro e w3 ⟨tl, rfl, htl, hb3⟩
  obtain ⟨ot, ct, rfl, hat⟩ := argPlaces_of_owns htl
  have HB3 := Lib.hid (HB0.out.trans (hb3.mono HB0.out.size))
  have RG3 := Lib.hid (RG.out.below hb3 RG.out.lt)
  have HAT := Lib.hid hat
  clear hb3 htl hat
  go_wp2
  go_loopw [8] (fun i wr => ∃ k : Nat, i = .int .i64 k ∧ k ≤ (plsAll (placed 0 ss)).length ∧ Hid (Below w3.heap.size w3 wr ∧ ∀ q ∈ (placed 0 ss).take k, ∀ z, StVal ss (q.1 : Int) (q.2.1 : Int) z → z = 1)) (fun i _ => (plsAll (placed 0 ss)).length - (intOf i).toNat)
  case atStart => exact ⟨0, rfl, Nat.zero_le _, Lib.hid ⟨Below.refl _ _, fun q hq => by simp at hq⟩⟩
  case round =>
    obtain ⟨k, rfl, hk, hP⟩ := hrel
    by_cases hlt : k < (plsAll (placed 0 ss)).length
    · obtain ⟨⟨i, j, x⟩, hqk⟩ : ∃ q, (placed 0 ss)[k]? = some q := ⟨_, List.getElem?_eq_getElem (by rw [HLN.out] at hlt; exact hlt)⟩
      have hqm := List.mem_of_getElem? hqk
      obtain ⟨b5, f5, rfl, hb5, q5⟩ := (HAT.out.below hP.out.1).at (by omega)
      obtain ⟨r0, r1⟩ := q5 k ((i : Int), (j : Int)) (plsAll_at hqk)
      have hba := (Below.refl wr.heap.size wr).alloc (Nat.le_refl _) (.cells #[.int .i64 (i : Int), .int .i64 (j : Int)] 34)
      have HBA := Lib.hid (hP.out.1.trans (hba.mono hP.out.1.size))
      have HBW := Lib.hid (HB3.out.trans (HBA.out.mono HB3.out.size))
      have g4 := (RG3.out.below HBA.out RG3.out.lt).cell (i := 0) (v := .slice oa ss.length cap) (by rfl)
      have C4 := Lib.hid (specStateOf_any ss HF.out oa cap (i : Int) (j : Int) _ (HC.out.below HBW.out (Nat.le_refl _)))
      have HQK := Lib.hid hqk
      have HQM := Lib.hid hqm
      clear hba q5 hqk hqm
      go_wp2_with fail
      refine C4.out.mono ?_
      rintro e w5 ⟨zz, rfl, hz, hb6⟩
      have HB5 := Lib.hid (HBA.out.trans (hb6.mono HBA.out.size))
      have HZ := Lib.hid hz
      clear hb6 hz g4 r0 r1
      by_cases he : zz = 1
      · subst he
        have HALL : Hid (Below w3.heap.size w3 w5 ∧ ∀ q ∈ (placed 0 ss).take (k + 1), ∀ z, StVal ss (q.1 : Int) (q.2.1 : Int) z → z = 1) := Lib.hid ⟨HB5.out, by
          intro q hq
          rw [List.take_add_one, HQK.out] at hq
          simp only [Option.toList_some, List.mem_append, List.mem_singleton] at hq
          rcases hq with h | rfl
          · exact hP.out.2 q h
          · exact fun z hz => hz.same HZ.out⟩
        go_wp2
        go_roundw
        case rel => exact ⟨k + 1, by go_num, by omega, HALL⟩
        case measure => simp only [intOf]; omega
      · have hq : (zz != 1) = true := by simpa using he
        have HT : Hid (SoundVal ss false) := Lib.hid ⟨fun h => (by cases h), fun h => absurd (by rw [stVal_is h.1 HQM.out HZ.out]; exact h.2 _ HQM.out) he⟩
        have HBE := Lib.hid (HB3.out.trans (HB5.out.mono HB3.out.size))
        clear he
        go_wp2
        go_ret
        exact ⟨_, rfl, HT.out, HBE.out⟩
    · obtain rfl : k = (plsAll (placed 0 ss)).length := by omega
      have HE : Hid ((placed 0 ss).take (plsAll (placed 0 ss)).length = placed 0 ss) := Lib.hid (by rw [HLN.out, List.take_length])
      have HBW := Lib.hid (HB3.out.trans (hP.out.1.mono HB3.out.size))
      have g4 := (RG3.out.below hP.out.1 RG3.out.lt).cell (i := 0) (v := .slice oa ss.length cap) (by rfl)
      have C4 := Lib.hid (specValid_any ss oa cap wr HF.out (HC.out.below HBW.out (Nat.le_refl _)))
      go_wp2_with fail
      refine C4.out.mono ?_
      rintro e w5 ⟨q, rfl, hv, hb6⟩
      have HBE := Lib.hid (HBW.out.trans (hb6.mono HBW.out.size))
      have HT : Hid (SoundVal ss q) := Lib.hid (by
        refine ⟨fun h => ⟨hv.1 h, fun y hy => ?_⟩, fun h => hv.2 h.1⟩
        have h2 := hP.out.2
        rw [HE.out] at h2
        exact h2 y hy _ (.inl ⟨hv.1 h, y.1, y.2.1, y.2.2, rfl, rfl, hy, rfl⟩))
      clear hb6 hv g4
      go_wp2
      go_ret
      exact ⟨_, rfl, HT.out, HBE.out⟩
end Go.Proofs.YtppgdigcopkeiaaDoor
namespace Go.Proofs.YtppgdigcopkeiaaDoor
open Go Go.RowKit
theorem take_ne {α : Type} {ps qs : List α} {k : Nat} {p q : α} (hp : ps[k]? = some p) (hq : qs[k]? = some q) (h : p ≠ q) : ps ≠ qs := by
  rintro rfl
  rw [hp] at hq
  exact h (Option.some.inj hq)
theorem take_next {α : Type} {ps qs : List α} {k : Nat} {p : α} (h : ps.take k = qs.take k) (hp : ps[k]? = some p) (hq : qs[k]? = some p) : ps.take (k + 1) = qs.take (k + 1) := by
  rw [List.take_add_one, List.take_add_one, hp, hq, h]
theorem take_all {α : Type} {ps qs : List α} {k : Nat} (h : ps.take k = qs.take k) (hk : k = min ps.length qs.length) : ps = qs ↔ ps.length = qs.length := by
  refine ⟨fun e => by rw [e], fun e => ?_⟩
  rw [List.take_of_length_le (by omega), List.take_of_length_le (by omega)] at h
  exact h
/-- What the laws' comparisons answer. -/
def SameGot (eq : Prop) (w : World) (e : Ending) (w' : World) : Prop := ∃ b : Bool, e = .returned (.bool b) ∧ (b = true ↔ eq) ∧ Below w.heap.size w w'
set_option maxRecDepth 100000 in
set_option maxHeartbeats 1600000 in
theorem sgPlaces_any (ps qs : List (Int × Int)) (oa ob : Option Addr) (ca cb : Nat) (w : World) (hn : ps.length ≤ 1000000) (hm : qs.length ≤ 1000000) (ha : ArgPlaces w oa ps) (hb : ArgPlaces w ob qs) :
    Calls Tryd.prog 46 #[.slice oa ps.length ca, .slice ob qs.length cb] w (SameGot (ps = qs) w) := by
  have HA := Lib.hid ha
  have HB := Lib.hid hb
  clear ha hb
  go_enter Tryd.func46, Tryd.ntmps46
  go_wp2
  · go_loopw [11] (fun i wr => ∃ k : Nat, i = .int .i64 k ∧ k ≤ qs.length ∧ Hid (ps.take k = qs.take k) ∧ Hid (Below w.heap.size w wr)) (fun i _ => qs.length - (intOf i).toNat)
    case atStart => exact ⟨0, rfl, Nat.zero_le _, Lib.hid rfl, Lib.hid (Below.refl _ _)⟩
    case round =>
      obtain ⟨k, rfl, hk, HT, HW⟩ := hrel
      by_cases hlt : k < qs.length
      · have hl1 : k < ps.length := by omega
        have hl2 : k < qs.length := by omega
        obtain ⟨p, hp⟩ : ∃ p, ps[k]? = some p := ⟨_, List.getElem?_eq_getElem hl1⟩
        obtain ⟨q, hq⟩ : ∃ q, qs[k]? = some q := ⟨_, List.getElem?_eq_getElem hl2⟩
        obtain ⟨b1, f1, rfl, hb1, c1⟩ := (HA.out.below HW.out).at (by omega)
        obtain ⟨b2, f2, rfl, hb2, c2⟩ := (HB.out.below HW.out).at (by omega)
        obtain ⟨p0, p1⟩ := c1 k p hp
        obtain ⟨q0, q1⟩ := c2 k q hq
        have HP := Lib.hid hp
        have HQ := Lib.hid hq
        have HD := Lib.hid (HW.out.drew)
        have p0' := cell_drew p0
        have p1' := cell_drew p1
        have q0' := cell_drew q0
        have q1' := cell_drew q1
        clear c1 c2 hp hq p0 p1 q0 q1 hb1 hb2
        obtain ⟨a, b⟩ := p
        obtain ⟨c, d⟩ := q
        by_cases he : a = c ∧ b = d
        · obtain ⟨rfl, rfl⟩ := he
          have hab : ((a == a) && (b == b)) = true := by simp
          have HN := Lib.hid (take_next HT.out HP.out HQ.out)
          go_upto_region 4 with (fail)
          go_region
          all_goals go_wp2
          all_goals go_roundw
          all_goals first
            | exact ⟨k + 1, by go_num, by omega, HN, HD⟩
            | (simp only [intOf]; omega)
        · have HNE : Hid ((false = true) ↔ ps = qs) := Lib.hid ⟨fun h => (by cases h), fun h => absurd h (take_ne HP.out HQ.out (fun e => he ⟨by have := congrArg Prod.fst e; exact this, by have := congrArg Prod.snd e; exact this⟩))⟩
          by_cases h1 : a = c
          · subst h1
            have h2 : ¬ b = d := fun h => he ⟨rfl, h⟩
            clear he
            go_upto_region 4 with (fail)
            go_region
            all_goals go_wp2
            all_goals go_ret
            all_goals exact ⟨_, rfl, HNE.out, HD.out⟩
          · clear he
            go_upto_region 4 with (fail)
            go_region
            all_goals go_wp2
            all_goals go_ret
            all_goals exact ⟨_, rfl, HNE.out, HD.out⟩
      · have hkk : k = min ps.length qs.length := by omega
        have HE := Lib.hid (take_all HT.out hkk)
        clear hkk
        go_wp2
        go_ret
        exact ⟨_, rfl, by rw [HE.out]; simp; constructor <;> intro h <;> omega, HW.out⟩
  · go_loopw [11] (fun i wr => ∃ k : Nat, i = .int .i64 k ∧ k ≤ ps.length ∧ Hid (ps.take k = qs.take k) ∧ Hid (Below w.heap.size w wr)) (fun i _ => ps.length - (intOf i).toNat)
    case atStart => exact ⟨0, rfl, Nat.zero_le _, Lib.hid rfl, Lib.hid (Below.refl _ _)⟩
    case round =>
      obtain ⟨k, rfl, hk, HT, HW⟩ := hrel
      by_cases hlt : k < ps.length
      · have hl1 : k < ps.length := by omega
        have hl2 : k < qs.length := by omega
        obtain ⟨p, hp⟩ : ∃ p, ps[k]? = some p := ⟨_, List.getElem?_eq_getElem hl1⟩
        obtain ⟨q, hq⟩ : ∃ q, qs[k]? = some q := ⟨_, List.getElem?_eq_getElem hl2⟩
        obtain ⟨b1, f1, rfl, hb1, c1⟩ := (HA.out.below HW.out).at (by omega)
        obtain ⟨b2, f2, rfl, hb2, c2⟩ := (HB.out.below HW.out).at (by omega)
        obtain ⟨p0, p1⟩ := c1 k p hp
        obtain ⟨q0, q1⟩ := c2 k q hq
        have HP := Lib.hid hp
        have HQ := Lib.hid hq
        have HD := Lib.hid (HW.out.drew)
        have p0' := cell_drew p0
        have p1' := cell_drew p1
        have q0' := cell_drew q0
        have q1' := cell_drew q1
        clear c1 c2 hp hq p0 p1 q0 q1 hb1 hb2
        obtain ⟨a, b⟩ := p
        obtain ⟨c, d⟩ := q
        by_cases he : a = c ∧ b = d
        · obtain ⟨rfl, rfl⟩ := he
          have hab : ((a == a) && (b == b)) = true := by simp
          have HN := Lib.hid (take_next HT.out HP.out HQ.out)
          go_upto_region 4 with (fail)
          go_region
          all_goals go_wp2
          all_goals go_roundw
          all_goals first
            | exact ⟨k + 1, by go_num, by omega, HN, HD⟩
            | (simp only [intOf]; omega)
        · have HNE : Hid ((false = true) ↔ ps = qs) := Lib.hid ⟨fun h => (by cases h), fun h => absurd h (take_ne HP.out HQ.out (fun e => he ⟨by have := congrArg Prod.fst e; exact this, by have := congrArg Prod.snd e; exact this⟩))⟩
          by_cases h1 : a = c
          · subst h1
            have h2 : ¬ b = d := fun h => he ⟨rfl, h⟩
            clear he
            go_upto_region 4 with (fail)
            go_region
            all_goals go_wp2
            all_goals go_ret
            all_goals exact ⟨_, rfl, HNE.out, HD.out⟩
          · clear he
            go_upto_region 4 with (fail)
            go_region
            all_goals go_wp2
            all_goals go_ret
            all_goals exact ⟨_, rfl, HNE.out, HD.out⟩
      · have hkk : k = min ps.length qs.length := by omega
        have HE := Lib.hid (take_all HT.out hkk)
        clear hkk
        go_wp2
        go_ret
        exact ⟨_, rfl, by rw [HE.out]; simp; constructor <;> intro h <;> omega, HW.out⟩
end Go.Proofs.YtppgdigcopkeiaaDoor
namespace Go.Proofs.YtppgdigcopkeiaaDoor
open Go Go.RowKit
set_option maxRecDepth 100000 in
set_option maxHeartbeats 1600000 in
theorem sgSame_any (ps qs : List Int) (oa ob : Option Addr) (ca cb : Nat) (w : World) (hn : ps.length ≤ 1000000) (hm : qs.length ≤ 1000000) (ha : HoldsInts w oa ps) (hb : HoldsInts w ob qs) :
    Calls Tryd.prog 58 #[.slice oa ps.length ca, .slice ob qs.length cb] w (SameGot (ps = qs) w) := by
  have HA := Lib.hid ha
  have HB := Lib.hid hb
  clear ha hb
  go_enter Tryd.func58, Tryd.ntmps58
  go_wp2
  · go_loopw [11] (fun i wr => ∃ k : Nat, i = .int .i64 k ∧ k ≤ qs.length ∧ Hid (ps.take k = qs.take k) ∧ Hid (Below w.heap.size w wr)) (fun i _ => qs.length - (intOf i).toNat)
    case atStart => exact ⟨0, rfl, Nat.zero_le _, Lib.hid rfl, Lib.hid (Below.refl _ _)⟩
    case round =>
      obtain ⟨k, rfl, hk, HT, HW⟩ := hrel
      by_cases hlt : k < qs.length
      · have hl1 : k < ps.length := by omega
        have hl2 : k < qs.length := by omega
        obtain ⟨p, hp⟩ : ∃ p, ps[k]? = some p := ⟨_, List.getElem?_eq_getElem hl1⟩
        obtain ⟨q, hq⟩ : ∃ q, qs[k]? = some q := ⟨_, List.getElem?_eq_getElem hl2⟩
        obtain ⟨b1, f1, rfl, hb1, c1⟩ := (HA.out.below HW.out).at (by omega)
        obtain ⟨b2, f2, rfl, hb2, c2⟩ := (HB.out.below HW.out).at (by omega)
        have p0 := c1 k p hp
        have q0 := c2 k q hq
        have HP := Lib.hid hp
        have HQ := Lib.hid hq
        have HD := Lib.hid (HW.out.drew)
        have p0' := cell_drew p0
        have q0' := cell_drew q0
        clear c1 c2 hp hq p0 q0 hb1 hb2
        by_cases he : p = q
        · subst he
          have hab : (p != p) = false := by simp
          have HN := Lib.hid (take_next HT.out HP.out HQ.out)
          go_upto_region 4 with (fail)
          go_region
          all_goals go_wp2
          all_goals go_roundw
          all_goals first
            | exact ⟨k + 1, by go_num, by omega, HN, HD⟩
            | (simp only [intOf]; omega)
        · have HNE : Hid ((false = true) ↔ ps = qs) := Lib.hid ⟨fun h => (by cases h), fun h => absurd h (take_ne HP.out HQ.out he)⟩
          have hab : (p != q) = true := by simpa using he
          clear he
          go_upto_region 4 with (fail)
          go_region
          all_goals go_wp2
          all_goals go_ret
          all_goals exact ⟨_, rfl, HNE.out, HD.out⟩
      · have hkk : k = min ps.length qs.length := by omega
        have HE := Lib.hid (take_all HT.out hkk)
        clear hkk
        go_wp2
        go_ret
        exact ⟨_, rfl, by rw [HE.out]; simp; constructor <;> intro h <;> omega, HW.out⟩
  · go_loopw [11] (fun i wr => ∃ k : Nat, i = .int .i64 k ∧ k ≤ ps.length ∧ Hid (ps.take k = qs.take k) ∧ Hid (Below w.heap.size w wr)) (fun i _ => ps.length - (intOf i).toNat)
    case atStart => exact ⟨0, rfl, Nat.zero_le _, Lib.hid rfl, Lib.hid (Below.refl _ _)⟩
    case round =>
      obtain ⟨k, rfl, hk, HT, HW⟩ := hrel
      by_cases hlt : k < ps.length
      · have hl1 : k < ps.length := by omega
        have hl2 : k < qs.length := by omega
        obtain ⟨p, hp⟩ : ∃ p, ps[k]? = some p := ⟨_, List.getElem?_eq_getElem hl1⟩
        obtain ⟨q, hq⟩ : ∃ q, qs[k]? = some q := ⟨_, List.getElem?_eq_getElem hl2⟩
        obtain ⟨b1, f1, rfl, hb1, c1⟩ := (HA.out.below HW.out).at (by omega)
        obtain ⟨b2, f2, rfl, hb2, c2⟩ := (HB.out.below HW.out).at (by omega)
        have p0 := c1 k p hp
        have q0 := c2 k q hq
        have HP := Lib.hid hp
        have HQ := Lib.hid hq
        have HD := Lib.hid (HW.out.drew)
        have p0' := cell_drew p0
        have q0' := cell_drew q0
        clear c1 c2 hp hq p0 q0 hb1 hb2
        by_cases he : p = q
        · subst he
          have hab : (p != p) = false := by simp
          have HN := Lib.hid (take_next HT.out HP.out HQ.out)
          go_upto_region 4 with (fail)
          go_region
          all_goals go_wp2
          all_goals go_roundw
          all_goals first
            | exact ⟨k + 1, by go_num, by omega, HN, HD⟩
            | (simp only [intOf]; omega)
        · have HNE : Hid ((false = true) ↔ ps = qs) := Lib.hid ⟨fun h => (by cases h), fun h => absurd h (take_ne HP.out HQ.out he)⟩
          have hab : (p != q) = true := by simpa using he
          clear he
          go_upto_region 4 with (fail)
          go_region
          all_goals go_wp2
          all_goals go_ret
          all_goals exact ⟨_, rfl, HNE.out, HD.out⟩
      · have hkk : k = min ps.length qs.length := by omega
        have HE := Lib.hid (take_all HT.out hkk)
        clear hkk
        go_wp2
        go_ret
        exact ⟨_, rfl, by rw [HE.out]; simp; constructor <;> intro h <;> omega, HW.out⟩
end Go.Proofs.YtppgdigcopkeiaaDoor
namespace Go.Proofs.YtppgdigcopkeiaaDoor
open Go Go.RowKit Go.ChangeShapes Go.WideShapes Go.Deep
theorem cells5 : Tryd.prog.cellsOf 5 = 1 := by kernel_rfl
set_option maxRecDepth 100000 in
theorem open_code {H : Type} {enc : TypeId × Value → H} {W : World} {base : Nat} {v1 : Value} {d1 : DataW H} {p1 : List MemPlace} (hval : Value.okWide Tryd.prog W .any base 47 v1) (h1 : DataW.Trod enc Tryd.prog W 0 (fun _ => true) true 47 v1 d1 p1) :
    ∃ oa len cap, v1 = .slice oa len cap ∧ HoldsBytes W oa len ∧ len ≤ cap := by
  obtain ⟨a1, len, cap, rfl⟩ := okWide_slice Tryd.underlying47 hval
  obtain ⟨fuel, hf⟩ := h1
  rcases open_ints Tryd.underlying47 Tryd.underlying5 cells5 hf with ⟨hcs, hx⟩ | ⟨a, len', cap', zs, hcs, _, hl, hm, hz, hx, hcell, hwz⟩
  · simp [Value.cells] at hcs
    obtain ⟨rfl, rfl, rfl⟩ := hcs
    exact ⟨none, 0, 0, rfl, .inl rfl, Nat.le_refl _⟩
  · simp [Value.cells] at hcs
    obtain ⟨rfl, rfl, rfl⟩ := hcs
    simp only [if_true] at hz
    refine ⟨some a, len, cap, rfl, ?_, hl⟩
    by_cases h0 : len = 0
    · exact .inl h0
    · obtain ⟨ab, ao, spot⟩ := a
      have hspot : spot = none := by simpa [Addr.add] using World.cell?_spot (hcell 0 (by omega))
      subst hspot
      have c0 := hcell 0 (by omega)
      refine .inr ⟨ab, ao, rfl, ?_, fun j hj => ?_⟩
      · rw [Addr.add_lit] at c0
        exact World.block_lt_of_cell? _ _ c0
      · have hcj := hcell j (by omega)
        rw [Addr.add_lit] at hcj
        have hb := range_u8 hwz j
        rw [← List.getD_eq_getElem?_getD] at hb
        obtain ⟨z, hz'⟩ : ∃ z, zs.getD j 0 = z := ⟨_, rfl⟩
        rw [hz'] at hb hcj
        have hzz : ((z.toNat : Nat) : Int) = z := Int.toNat_of_nonneg hb.1
        exact ⟨z.toNat, by omega, by rw [hcj, hzz]⟩
end Go.Proofs.YtppgdigcopkeiaaDoor
namespace Go.Proofs.YtppgdigcopkeiaaDoor
open Go Go.RowKit Sg
theorem sgPlaces_self (ps : List (Int × Int)) (oa ob : Option Addr) (ca cb : Nat) (w : World) (hn : ps.length ≤ 1000000) (ha : ArgPlaces w oa ps) (hb : ArgPlaces w ob ps) :
    Calls Tryd.prog 46 #[.slice oa ps.length ca, .slice ob ps.length cb] w fun e w' => e = .returned (.bool true) ∧ Below w.heap.size w w' :=
  (sgPlaces_any ps ps oa ob ca cb w hn hn ha hb).mono (by rintro e w' ⟨t, rfl, ht, hb⟩; exact ⟨by rw [ht.2 rfl], hb⟩)
def stNums : List Int := [1, 2, 3, 4, 1, 2, 0, 5, -1]
theorem stNums_cells (W : World) : ∀ i x, stNums[i]? = some x → (W.alloc (.cells #[.int .i64 1, .int .i64 2, .int .i64 3, .int .i64 4, .int .i64 1, .int .i64 2, .int .i64 0, .int .i64 5, .int .i64 (-1)] 3)).cell? ⟨W.heap.size, 0 + i, none⟩ = some (.int .i64 x) := fun i x hx => by
  have h := (Row.new W [.int .i64 1, .int .i64 2, .int .i64 3, .int .i64 4, .int .i64 1, .int .i64 2, .int .i64 0, .int .i64 5, .int .i64 (-1)] 3).cell (i := i) (v := .int .i64 x) (by
    have e : ([.int .i64 1, .int .i64 2, .int .i64 3, .int .i64 4, .int .i64 1, .int .i64 2, .int .i64 0, .int .i64 5, .int .i64 (-1)] : List Value) = stNums.map fun z => Value.int .i64 z := rfl
    rw [e, List.getElem?_map, hx]; rfl)
  rw [Nat.zero_add]
  exact h
set_option maxRecDepth 100000 in
set_option maxHeartbeats 4000000 in
theorem drawItemsIn_any {w : World} {oa : Option Addr} {len cap : Nat} (h : HoldsBytes w oa len) (hl : len ≤ 2 ^ 62) (hlc : len ≤ cap) : Calls Tryd.prog 68 #[.slice oa len cap] w (Drawn2 w) := by
  have hbA := (Below.refl w.heap.size w).alloc (Nat.le_refl _) (.cells #[.slice none 0 0] 30)
  have RA := Lib.hid (Row.new w [.slice none 0 0] 30)
  have C := Lib.hid (open_any (h.below hbA) hl hlc)
  have HBA := Lib.hid hbA
  clear h hbA hl hlc
  go_enter Tryd.func68, Tryd.ntmps68
  go_wp2_with fail
  refine C.out.mono ?_
  rintro e w1 ⟨r, ob, n, c, rfl, hr, hrd, hb1⟩
  have HB1 := Lib.hid (HBA.out.trans (hb1.mono HBA.out.size))
  have R1 := Lib.hid (RA.out.below hb1 RA.out.lt)
  have C2 := Lib.hid (some_any hrd (by omega))
  have HR := Lib.hid (show w.heap.size < r by simp at hr; omega)
  have HRL := Lib.hid hrd.box.lt
  clear hr hrd hb1
  go_wp2_with fail
  refine C2.out.mono ?_
  rintro e w2 ⟨ss, v, hs, rfl, hg, hl, hr2⟩
  obtain ⟨ov, cv, rfl, -⟩ := hg.holds
  have hbB := (Below.refl w2.heap.size w2).alloc (Nat.le_refl _) (.cells #[.slice ov ss.length cv] 30)
  have hbN := hbB.drew.trans ((Below.refl _ _).alloc (Nat.le_refl _) (.cells #[.int .i64 1, .int .i64 2, .int .i64 3, .int .i64 4, .int .i64 1, .int .i64 2, .int .i64 0, .int .i64 5, .int .i64 (-1)] 3) |>.mono hbB.drew.size)
  have hsB : (w2.alloc (.cells #[.slice ov ss.length cv] 30)).drew.heap.size = w2.heap.size + 1 := World.size_alloc _ _
  have HR2 := Lib.hid (hr2.step hbN)
  obtain ⟨p', hp', hrdN⟩ := HR2.out.rd
  have hrl : r < w2.heap.size := Nat.lt_of_lt_of_le HRL.out hr2.turns.size
  have hcells := stNums_cells (w2.alloc (.cells #[.slice ov ss.length cv] 30)).drew
  rw [hsB] at hcells
  have C3 := Lib.hid ((callsIn_wide (n := 5)).2 (num_any hrdN (by omega) stNums (by decide) (by decide) (w2.heap.size + 1) 0 9 (by simp) (by omega) hcells))
  have R2 := Lib.hid (((R1.out.asked hr2.turns (by have := HR.out; omega)).alloc (.cells #[.slice ov ss.length cv] 30)).drew.alloc (.cells #[.int .i64 1, .int .i64 2, .int .i64 3, .int .i64 4, .int .i64 1, .int .i64 2, .int .i64 0, .int .i64 5, .int .i64 (-1)] 3))
  have R5 := Row.new w2 [.slice ov ss.length cv] 30
  have s5 := cell_drew (R5.cell (i := 0) (v := .slice ov ss.length cv) (by rfl))
  have R5n := Lib.hid (R5.drew.alloc (.cells #[.int .i64 1, .int .i64 2, .int .i64 3, .int .i64 4, .int .i64 1, .int .i64 2, .int .i64 0, .int .i64 5, .int .i64 (-1)] 3))
  have HG := Lib.hid (hg.below hbN)
  have HBN : Hid (Below w.heap.size w ((w2.alloc (.cells #[.slice ov ss.length cv] 30)).drew.alloc (.cells #[.int .i64 1, .int .i64 2, .int .i64 3, .int .i64 4, .int .i64 1, .int .i64 2, .int .i64 0, .int .i64 5, .int .i64 (-1)] 3))) := Lib.hid (HB1.out.trans ((hr2.turns.below (by have := HR.out; omega) (by have := HR.out; omega) HB1.out.size).trans (hbN.mono (Nat.le_trans HB1.out.size hr2.turns.size))))
  have HLL := Lib.hid hl
  have HRLT := Lib.hid (And.intro hrl (R1.out.asked hr2.turns (by have := HR.out; omega)).lt)
  have hr2b := HR2.out.rd
  clear hg hl hr2 hbB hbN hcells hrdN hp' hsB hr2b hrl R5
  go_wp2
  refine wp_region_kept (S := fun w' => w'.cell? ⟨w2.heap.size, 0, none⟩ = some (.slice ov ss.length cv)) 20 (by kernel_rfl) ?_
  have hS0 := s5
  refine KeptAny.take (i := 0) (v := ?_) (by kernel_rfl) rfl rfl (by kernel_rfl) (by kernel_rfl) (by kernel_rfl) (fun _ _ _ h => h) (by rfl) (fun w' hw' => ?_) (fun _ => rfl) hS0 ?_
  rotate_left
  · (go_simp; try with_reducible rfl)
  refine KeptAny.take (i := 1) (v := ?_) (by kernel_rfl) rfl rfl (by kernel_rfl) (by kernel_rfl) (by kernel_rfl) (fun _ _ _ h => h) (by rfl) (fun w' hw' => ?_) (fun _ => rfl) hS0 ?_
  rotate_left
  · (go_simp; try with_reducible rfl)
  refine KeptAny.one (i := 2) (by kernel_rfl) rfl (by rfl) (fun K hK => ?_)
  go_simp
  have hS1 := R5n.out.cell (i := 0) (v := .slice ov ss.length cv) (by rfl)
  refine hK.out _ _ hS1 (fun _ => ?_)
  clear hK hS0 s5
  refine KeptAny.one (i := 3) (by kernel_rfl) rfl (by rfl) (fun K hK => ?_)
  go_simp
  refine ⟨trivial, ?_⟩
  refine C3.out.mono ?_
  rintro e w4 ⟨s, hs', rfl, hl4⟩
  have HSI : Hid (I64 s) := Lib.hid (by
    unfold stNums at hs'
    simp only [List.mem_cons, List.not_mem_nil, or_false] at hs'
    unfold I64
    omega)
  have R24 := Lib.hid (R2.out.asked hl4.turns (by have := HR.out; omega))
  have R54 := Lib.hid (R5n.out.asked hl4.turns (by have := HRLT.out.1; omega))
  obtain ⟨_, _, hrw⟩ := HR2.out.now
  have HG4 := Lib.hid ((HG.out.asked hrw hl4.turns).other R24.out (by decide) (by decide) 0 (.slice ov ss.length cv))
  have HE4 := Lib.hid ((HBN.out.trans (hl4.turns.below (by have := HR.out; omega) (by have := HR.out; omega) HBN.out.size)).setCell (p := ⟨w.heap.size, 0, none⟩) (Nat.le_refl _) (.slice ov ss.length cv))
  have hS4 := R54.out.cell (i := 0) (v := .slice ov ss.length cv) (by rfl)
  have t2 := R24.out.cell (i := 0) (v := .slice none 0 0) (by rfl)
  have f2 := R24.out.frozen 0
  have hS5 := (R54.out.other (a := ⟨w.heap.size, 0, none⟩) (by have := HRLT.out.2; show w.heap.size ≠ w2.heap.size; omega) (.slice ov ss.length cv)).cell (i := 0) (v := .slice ov ss.length cv) (by rfl)
  have D2 := Lib.hid ((R24.out.set 0 (.slice ov ss.length cv)).cell (i := 0) (v := .slice ov ss.length cv) (by rfl))
  clear hl4 hs' hrw hS1
  refine hK.out _ _ hS4 (fun _ => ?_)
  clear hK
  refine KeptAny.one (i := 4) (by kernel_rfl) rfl (by rfl) (fun K hK => ?_)
  go_simp
  refine hK.out _ _ hS5 (fun _ => ?_)
  clear hK t2 f2 hS4
  refine KeptAny.one (i := 5) (by kernel_rfl) rfl (by rfl) (fun K hK => ?_)
  go_simp
  refine hK.out _ _ hS5 (fun _ => ?_)
  clear hK
  refine KeptAny.done (by kernel_rfl) ?_ _
  clear hS5
  go_wp2
  obtain ⟨oe, ce, he, hH⟩ := HG4.out.holds
  cases he
  have d2 := D2.out
  exact bodyPost_ret (v := .tuple #[.agg #[.slice ov ss.length cv], .int .i64 s]) (by simp [results, Tryd.results68, go_sem, d2]) rfl ⟨ss, _, _, s, rfl, hH, HLL.out, HSI.out, HE4.out⟩
/-- How many items have a state below k. -/
def cntUp (ss : List Sc) (k : Nat) : Nat := ((placed 0 ss).filter fun q => decide (1 ≤ stateIt ss q ∧ stateIt ss q < (k : Int))).length
theorem filter_next {α : Type} (f : α → Int) (k : Nat) (hk : 1 ≤ k) : ∀ l : List α, (l.filter fun q => decide (1 ≤ f q ∧ f q < ((k + 1 : Nat) : Int))).length = (l.filter fun q => decide (1 ≤ f q ∧ f q < (k : Int))).length + (l.filter fun q => f q == (k : Int)).length
  | [] => rfl
  | x :: r => by
    have ih := filter_next f k hk r
    by_cases h1 : f x = (k : Int)
    · rw [List.filter_cons_of_pos (by simp; omega), List.filter_cons_of_neg (by simp; omega), List.filter_cons_of_pos (by simpa using h1)]
      simp only [List.length_cons]
      omega
    · by_cases h2 : 1 ≤ f x ∧ f x < (k : Int)
      · rw [List.filter_cons_of_pos (by simp; omega), List.filter_cons_of_pos (by simpa using h2), List.filter_cons_of_neg (by simpa using h1)]
        simp only [List.length_cons]
        omega
      · rw [List.filter_cons_of_neg (by simp; omega), List.filter_cons_of_neg (by simpa using h2), List.filter_cons_of_neg (by simpa using h1)]
        exact ih
theorem cntUp_next (ss : List Sc) (k : Nat) (hk : 1 ≤ k) : cntUp ss (k + 1) = cntUp ss k + (stsP ss (k : Int)).length := by
  unfold cntUp stsP stsOf
  rw [filter_next (stateIt ss) k hk, List.length_map]
theorem cntUp_one (ss : List Sc) : cntUp ss 1 = 0 := by
  unfold cntUp
  rw [List.length_eq_zero_iff, List.filter_eq_nil_iff]
  intro q _ h
  simp only [decide_eq_true_iff] at h
  omega
theorem stateIt_in (ss : List Sc) (q : Nat × Nat × It) : 1 ≤ stateIt ss q ∧ stateIt ss q < 5 := by
  unfold stateIt
  split
  · omega
  · split
    · omega
    · split <;> omega
theorem cntUp_all (ss : List Sc) : cntUp ss 5 = (placed 0 ss).length := by
  unfold cntUp
  rw [List.filter_eq_self.2]
  intro q _
  exact decide_eq_true (stateIt_in ss q)
theorem placed_count : ∀ (ss : List Sc) (i : Nat), (placed i ss).length = (ss.map fun s => s.items.length).sum
  | [], _ => rfl
  | s :: r, i => by
    have ih := placed_count r (i + 1)
    show ((s.items.zipIdx.map fun p => (i, p.2, p.1)) ++ placed (i + 1) r).length = _
    rw [List.length_append, List.length_map, List.length_zipIdx, ih]
    simp
def itemsUp (ss : List Sc) (k : Nat) : Nat := ((ss.take k).map fun s => s.items.length).sum
theorem itemsUp_next {ss : List Sc} {k : Nat} {s : Sc} (h : ss[k]? = some s) : itemsUp ss (k + 1) = itemsUp ss k + s.items.length := by
  unfold itemsUp
  rw [List.take_add_one, h]
  simp
theorem itemsUp_le (ss : List Sc) (k : Nat) : itemsUp ss k ≤ (placed 0 ss).length := by
  unfold itemsUp
  rw [placed_count]
  have h : (ss.map fun s => s.items.length).sum = ((ss.take k).map fun s => s.items.length).sum + ((ss.drop k).map fun s => s.items.length).sum := by
    rw [← List.sum_append, ← List.map_append, List.take_append_drop]
  omega
theorem itemsUp_all (ss : List Sc) : itemsUp ss ss.length = (placed 0 ss).length := by
  unfold itemsUp
  rw [List.take_length, placed_count]
theorem sound_all {ss : List Sc} (hv : Valid ss) {b : Bool} (h : SoundVal ss b) : b = (((stsP ss 1).length : Int) == ((placed 0 ss).length : Int)) := by
  have e : (stsP ss 1).length = ((placed 0 ss).filter fun q => stateIt ss q == 1).length := by unfold stsP stsOf; rw [List.length_map]
  unfold SoundVal at h
  rw [Bool.eq_iff_iff, h, beq_iff_eq, e]
  constructor
  · rintro ⟨_, h2⟩
    rw [List.filter_eq_self.2 (fun q hq => by simpa using h2 q hq)]
  · intro h2
    refine ⟨hv, fun q hq => ?_⟩
    have h3 := (List.length_filter_eq_length_iff (p := fun q => stateIt ss q == 1)).1 (show _ = (placed 0 ss).length by omega) q hq
    simpa using h3
theorem stsP_mem {ss : List Sc} {z : Int} {k : Nat} {p : Int × Int} (h : (stsP ss z)[k]? = some p) : ∃ (i j : Nat) (x : It), p = ((i : Int), (j : Int)) ∧ (i, j, x) ∈ placed 0 ss ∧ stateIt ss (i, j, x) = z := by
  have h1 := List.mem_of_getElem? h
  unfold stsP stsOf at h1
  obtain ⟨⟨i, j, x⟩, hq, rfl⟩ := List.mem_map.1 h1
  obtain ⟨h2, h3⟩ := List.mem_filter.1 hq
  exact ⟨i, j, x, rfl, h2, by simpa using h3⟩
set_option maxRecDepth 100000 in
set_option maxHeartbeats 8000000 in
theorem lawItemsIn {w : World} {oa : Option Addr} {len cap : Nat} (h : HoldsBytes w oa len) (hlc : len ≤ cap) (hE : TreeErrs w) :
    Calls Tryd.prog 12 #[.slice oa len cap] w fun e w' => e = .returned (.bool true) ∧ Below w.heap.size w w' := by
  by_cases hn : (1048576 : Int) < (len : Int)
  · clear h hE
    go_enter Tryd.func12, Tryd.ntmps12
    go_wp2
    go_ret
    exact ⟨rfl, Below.refl _ _⟩
  · have C := Lib.hid (drawItemsIn_any h (by omega) hlc)
    have HE := Lib.hid hE
    clear h hE hlc
    go_enter Tryd.func12, Tryd.ntmps12
    go_wp2_with fail
    refine C.out.mono ?_
    rintro e w1 ⟨ss, ov, cv, s, rfl, hh, hl, hsI, hb1⟩
    have HF := Lib.hid (hl.fair (by omega))
    have HW := Lib.hid hl
    have hbA := (Below.refl w1.heap.size w1).alloc (Nat.le_refl _) (.cells #[.slice ov ss.length cv] 30)
    have HA := Lib.hid (belowS hb1 hbA)
    have HC := Lib.hid (hh.below hbA (Nat.le_refl _))
    have RB := Lib.hid (Row.new w1 [.slice ov ss.length cv] 30)
    have HEA := Lib.hid (HE.out.at HA.out)
    have HPL : Hid ((placed 0 ss).length ≤ 44100) := Lib.hid (placed_bound 0 ss 210 210 hl.count hl.items)
    clear hh hl hsI hb1 hbA
    go_wp2_with fail
    refine (implItemsIn_any ss HF.out ov cv s _ HC.out HEA.out).mono ?_
    intro e w2 hgot
    obtain ⟨o1, c1, xs, b, rfl, hv1, ha1, -, hb2⟩ := hgot.val
    have V1 := Lib.hid hv1
    have A1 := Lib.hid ha1
    have X2 := Lib.hid hb2
    have r2 := (RB.out.below X2.out RB.out.lt).cell (i := 0) (v := .slice ov ss.length cv) (by rfl)
    clear hgot hv1 ha1 hb2
    go_wp2_with fail
    refine (specItemsIn_any ss HF.out.fits ov cv s _ (HC.out.below X2.out (Nat.le_refl _))).mono ?_
    intro e w3 hgot
    obtain ⟨o2, c2, ys, b', rfl, hv2, ha2, hb3⟩ := hgot.val
    obtain ⟨rfl, rfl⟩ := hv2.same V1.out
    have A2 := Lib.hid ha2
    have A1a := Lib.hid (A1.out.below hb3)
    have X3 := Lib.hid (belowS X2.out hb3)
    have r3 := (RB.out.below X3.out RB.out.lt).cell (i := 0) (v := .slice ov ss.length cv) (by rfl)
    clear hgot hv2 ha2 hb3 r2
    go_wp2_with fail
    refine (implIsSound_any ss HF.out ov cv _ (HC.out.below X3.out (Nat.le_refl _)) (HEA.out.at X3.out)).mono ?_
    rintro e w4 ⟨q, rfl, hq, hb4⟩
    have SQ := Lib.hid hq
    have A1b := Lib.hid (A1a.out.below hb4)
    have A2b := Lib.hid (A2.out.below hb4)
    have X4 := Lib.hid (belowS X3.out hb4)
    have hyl : ys.length ≤ 50000 := by
      rcases V1.out with ⟨_, rfl, _⟩ | ⟨hok, rfl, _⟩
      · simp
      · have h1 := stsOf_length ss s (placed 0 ss)
        have h2 := HPL.out
        unfold stsP
        omega
    have hbb : (b' == b') = true := by simp
    have hbn : (b' != b') = false := by simp
    have hqq : (q == q) = true := by simp
    have hqn : (q != q) = false := by simp
    clear hq hb4 r3
    go_wp2_with fail
    refine (sgPlaces_self ys o1 o2 c1 c2 _ (by omega) A1b.out A2b.out).mono ?_
    rintro e w5 ⟨rfl, hb5⟩
    have A1c := Lib.hid (A1b.out.below hb5)
    have A2c := Lib.hid (A2b.out.below hb5)
    have X5 := Lib.hid (belowS X4.out hb5)
    have r5 := (RB.out.below X5.out RB.out.lt).cell (i := 0) (v := .slice ov ss.length cv) (by rfl)
    clear hb5
    go_wp2_with fail
    refine (specIsSound_any ss HF.out.count HF.out.items (Nat.le_trans HPL.out (by omega)) HF.out.fits ov cv _ (HC.out.below X5.out (Nat.le_refl _))).mono ?_
    rintro e w6 ⟨q', rfl, hq', hb6⟩
    obtain rfl : q' = q := by
      have h1 := SQ.out
      have h2 := hq'
      unfold SoundVal at h1 h2
      exact Bool.eq_iff_iff.2 (h2.trans h1.symm)
    have A1d := Lib.hid (A1c.out.below hb6)
    have A2d := Lib.hid (A2c.out.below hb6)
    have X6 := Lib.hid (belowS X5.out hb6)
    have r6 := (RB.out.below X6.out RB.out.lt).cell (i := 0) (v := .slice ov ss.length cv) (by rfl)
    clear hq' hb6 r5
    by_cases hS : stOk ss s
    · obtain ⟨hy, rfl⟩ : ys = stsP ss s ∧ b' = true := by
        rcases V1.out with ⟨h1, _⟩ | ⟨_, h2, h3⟩
        · exact absurd hS h1
        · exact ⟨h2, h3⟩
      subst hy
      have HS := Lib.hid hS
      have HQS := Lib.hid (sound_all hS.1 SQ.out)
      have hss6 : ss.length ≤ 6 := hS.1.count.2
      have hpl30 : (placed 0 ss).length ≤ 30 := placed_bound 0 ss 6 5 hS.1.count.2 hS.1.five
      have HST : Hid (∀ z, (stsP ss z).length ≤ 30) := Lib.hid (fun z => Nat.le_trans (stsOf_length ss z (placed 0 ss)) hpl30)
      have HCN : Hid (∀ k, cntUp ss k ≤ 30) := Lib.hid (fun k => Nat.le_trans (List.length_filter_le _ _) hpl30)
      clear hS V1 hyl
      go_wp2
      go_loopw [10, 11, 12] (fun c a i wr => ∃ k n : Nat, i = .int .i64 k ∧ 1 ≤ k ∧ k ≤ 5 ∧ c = .int .i64 (cntUp ss k : Int) ∧ a = .int .i64 (n : Int) ∧ (1 < k → n = (stsP ss 1).length) ∧ n ≤ 30 ∧ Hid (Below w6.heap.size w6 wr)) (fun _ _ i _ => 5 - (intOf i).toNat)
      case atStart => exact ⟨1, 0, rfl, Nat.le_refl _, by omega, by rw [cntUp_one]; rfl, rfl, by omega, by omega, Lib.hid (Below.refl _ _)⟩
      case round =>
        obtain ⟨k, n, rfl, hk1, hk5, rfl, rfl, hn1, hn30, HB⟩ := hrel
        by_cases hlt : k < 5
        · have hle : (k : Int) ≤ 4 := by omega
          have XK := Lib.hid (belowS X6.out HB.out)
          have rk := (RB.out.below XK.out RB.out.lt).cell (i := 0) (v := .slice ov ss.length cv) (by rfl)
          have HOK : Hid (stOk ss (k : Int)) := Lib.hid ⟨HS.out.1, (st_in _).2 ⟨by omega, by omega⟩⟩
          have HNX := Lib.hid (cntUp_next ss k hk1)
          have hc30 := HCN.out k
          go_wp2_with fail
          refine (implItemsIn_any ss HF.out ov cv (k : Int) _ (HC.out.below XK.out (Nat.le_refl _)) (HEA.out.at XK.out)).mono ?_
          intro e w7 hgot
          obtain ⟨o7, c7, zs, b7, rfl, hv7, -, -, hb7⟩ := hgot.val
          obtain hz : zs.length = (stsP ss (k : Int)).length := by
            rcases hv7 with ⟨h1, _⟩ | ⟨_, h2, _⟩
            · exact absurd HOK.out h1
            · rw [h2]
          have hz30 : zs.length ≤ 30 := by rw [hz]; exact HST.out _
          have HB7 := Lib.hid (belowS HB.out hb7)
          have HZ := Lib.hid hz
          clear hgot hv7 hb7 rk hz
          generalize zs.length = zn at *
          by_cases h1 : k = 1
          · subst h1
            go_wp2
            go_roundw
            case rel => exact ⟨2, zn, by rfl, by omega, by omega, by rw [HNX.out, ← HZ.out]; congr 1, rfl, fun _ => HZ.out, hz30, HB7⟩
            case measure => simp only [intOf]; omega
          · have hk1' : ((k : Int) == 1) = false := by simp; omega
            go_wp2
            go_roundw
            case rel => exact ⟨k + 1, n, by go_num, by omega, by omega, by rw [HNX.out, ← HZ.out]; congr 1, rfl, fun _ => hn1 (by omega), hn30, HB7⟩
            case measure => simp only [intOf]; omega
        · obtain rfl : k = 5 := by omega
          have HC5 := Lib.hid (cntUp_all ss)
          have XK := Lib.hid (belowS X6.out HB.out)
          have rk := (RB.out.below XK.out RB.out.lt).cell (i := 0) (v := .slice ov ss.length cv) (by rfl)
          obtain rfl := hn1 (by omega)
          have hc30 := HCN.out 5
          go_wp2
          go_loopw [15, 96] (fun c i wr' => ∃ k : Nat, i = .int .i64 k ∧ k ≤ ss.length ∧ c = .int .i64 (itemsUp ss k : Int) ∧ itemsUp ss k ≤ 30 ∧ Hid (Below wr.heap.size wr wr')) (fun _ i _ => ss.length - (intOf i).toNat)
          case atStart => exact ⟨0, rfl, Nat.zero_le _, rfl, by simp [itemsUp], Lib.hid (Below.refl _ _)⟩
          case round =>
            obtain ⟨k, rfl, hk, rfl, hu30, HB2⟩ := hrel
            by_cases hlt : k < ss.length
            · obtain ⟨sc, hs⟩ : ∃ sc, ss[k]? = some sc := ⟨_, List.getElem?_eq_getElem hlt⟩
              have XK2 := Lib.hid (belowS XK.out HB2.out)
              obtain ⟨bb, off, rfl, hbb, hcell⟩ := (HC.out.below XK2.out (Nat.le_refl _)).at (by omega)
              obtain ⟨oi, ci, a0, a1, hci⟩ := hcell k sc hs
              have HNX := Lib.hid (itemsUp_next hs)
              have HUP : Hid (itemsUp ss (k + 1) ≤ 30) := Lib.hid (by have h1 := itemsUp_le ss (k + 1); omega)
              have hi30 : sc.items.length ≤ 30 := by have h1 := HUP.out; have h2 := HNX.out; omega
              have hbx := (Below.refl wr.heap.size wr).alloc (Nat.le_refl _) (.cells #[.int .i64 sc.parent, .slice oi sc.items.length ci] 69)
              have HB3 := Lib.hid (belowS HB2.out hbx)
              clear hs hcell hci hbx
              generalize itemsUp ss k = un at *
              go_wp2
              go_roundw
              case rel => exact ⟨k + 1, by go_num, hlt, by rw [HNX.out]; congr 1, HUP.out, HB3⟩
              case measure => simp only [intOf]; omega
            · obtain rfl : k = ss.length := by omega
              have HUA := Lib.hid (itemsUp_all ss)
              generalize itemsUp ss ss.length = un at *
              have XL := Lib.hid (belowS XK.out HB2.out)
              have XN := Lib.hid (belowS HB.out HB2.out)
              have hcc : ((cntUp ss 5 : Int) == (un : Int)) = true := by rw [HC5.out, HUA.out]; simp
              have hqe : (q' == (((stsP ss 1).length : Int) == (un : Int))) = true := by rw [HUA.out, ← HQS.out]; simp
              have hsl := HST.out s
              go_wp2
              go_loopw [108] (fun i wr2 => ∃ k : Nat, i = .int .i64 k ∧ k ≤ (stsP ss s).length ∧ Hid (Below wr.heap.size wr wr2)) (fun i _ => (stsP ss s).length - (intOf i).toNat)
              case atStart => exact ⟨0, rfl, Nat.zero_le _, Lib.hid (Below.refl _ _)⟩
              case round =>
                obtain ⟨k, rfl, hk3, HB4⟩ := hrel
                by_cases hlt3 : k < (stsP ss s).length
                · obtain ⟨q, hq⟩ : ∃ q, (stsP ss s)[k]? = some q := ⟨_, List.getElem?_eq_getElem hlt3⟩
                  obtain ⟨i, j, x, rfl, hpl, hst⟩ := stsP_mem hq
                  obtain ⟨b1, f1, rfl, hb1, q1⟩ := ((A1d.out.below XN.out).below HB4.out).at (by omega)
                  obtain ⟨c0, c1'⟩ := q1 k _ hq
                  have hbP := (Below.refl wr.heap.size wr).alloc (Nat.le_refl _) (.cells #[.int .i64 (i : Int), .int .i64 (j : Int)] 34)
                  have XP := Lib.hid (belowS HB4.out hbP)
                  have XQ := Lib.hid (belowS XL.out XP.out)
                  have RP := Lib.hid (Row.new wr [.int .i64 (i : Int), .int .i64 (j : Int)] 34)
                  have g8 := (RB.out.below XQ.out RB.out.lt).cell (i := 0) (v := .slice ov ss.length cv) (by rfl)
                  have hlt4 := HS.out.1.small.lt hpl
                  have HWI : Hid ((Lit.int .i64 (i : Int)).wf = true) := Lib.hid (wf_small hlt4.1)
                  have HWJ : Hid ((Lit.int .i64 (j : Int)).wf = true) := Lib.hid (wf_small hlt4.2)
                  have HQ := Lib.hid hpl
                  have HZ := Lib.hid hst
                  dsimp only at c0 c1'
                  clear hq hpl hst q1 hb1 hbP hlt4
                  go_wp2_with fail
                  refine (implStateOf_any ss HF.out ov cv (i : Int) (j : Int) HWI.out HWJ.out _ (HC.out.below XQ.out (Nat.le_refl _)) (HEA.out.at XQ.out)).mono ?_
                  rintro e wI ⟨z, rfl, hz, hbI⟩
                  have hzs : z = s := (stVal_is HS.out.1 HQ.out hz).trans HZ.out
                  have hzz : (z != s) = false := by simp [hzs]
                  have XI := Lib.hid (belowS XP.out hbI)
                  clear hz hbI
                  go_wp2
                  go_roundw
                  case rel => exact ⟨k + 1, by go_num, hlt3, XI⟩
                  case measure => simp only [intOf]; omega
                · obtain rfl : k = (stsP ss s).length := by omega
                  have XE := Lib.hid (belowS HA.out (belowS XL.out HB4.out))
                  go_wp2
                  go_ret
                  exact ⟨rfl, XE.out⟩
    · obtain ⟨hy, rfl⟩ : ys = [] ∧ b' = false := by
        rcases V1.out with ⟨_, h2, h3⟩ | ⟨h1, _⟩
        · exact ⟨h2, h3⟩
        · exact absurd h1 hS
      clear hS V1 hy
      go_wp2_with fail
      refine (sgPlaces_self ys o1 o2 c1 c2 _ (by omega) A1d.out A2d.out).mono ?_
      rintro e w7 ⟨rfl, hb7⟩
      have X7 := Lib.hid (belowS X6.out hb7)
      have r7 := (RB.out.below X7.out RB.out.lt).cell (i := 0) (v := .slice ov ss.length cv) (by rfl)
      clear hb7 r6
      go_wp2_with fail
      refine (specIsSound_any ss HF.out.count HF.out.items (Nat.le_trans HPL.out (by omega)) HF.out.fits ov cv _ (HC.out.below X7.out (Nat.le_refl _))).mono ?_
      rintro e w8 ⟨q2, rfl, hq2, hb8⟩
      obtain rfl : q2 = q' := by
        have h1 := SQ.out
        have h2 := hq2
        unfold SoundVal at h1 h2
        exact Bool.eq_iff_iff.2 (h2.trans h1.symm)
      have XE := Lib.hid (belowS HA.out (belowS X7.out hb8))
      clear hq2 hb8 r7
      go_wp2
      go_ret
      exact ⟨rfl, XE.out⟩
end Go.Proofs.YtppgdigcopkeiaaDoor
