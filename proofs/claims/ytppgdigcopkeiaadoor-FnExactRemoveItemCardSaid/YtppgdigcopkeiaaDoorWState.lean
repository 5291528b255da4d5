/-
  The walks of impl's (*resolution).state, ResolveItem and StateOf. Conditions: the argument's memory holds the graph; the package-level errors hold errors.
-/
import Derived.Test.YtppgdigcopkeiaaDoorWRes
import Derived.Test.YtppgdigcopkeiaaDoorWImpTarget
namespace Go.Proofs.YtppgdigcopkeiaaDoor
open Go Go.RowKit Go.Maps
attribute [local go_sem ↓] field_kind field_name field_scope field_places
/-- What the meanings answer at an item's place. -/
theorem mean_at {w : World} {B MR : Nat} {ss : List Sc} {l : List Ent} (hv : Valid ss) (h : MeanW w B MR ss l) (hf : l.map Prod.fst = placed 0 ss) {i j : Nat} {x : It} (hq : (i, j, x) ∈ placed 0 ss) :
    ∃ u, (Instr.lookup 89 (.map (some MR)) (.agg #[.int .i64 (i : Int), .int .i64 (j : Int)]) true).run Tryd.prog w = .ok (.tuple #[u, .bool true]) w ∧
      (Instr.lookup 89 (.map (some MR)) (.agg #[.int .i64 (i : Int), .int .i64 (j : Int)]) false).run Tryd.prog w = .ok u w ∧ w.ownsRow B 34 2 u (meanIt ss (i, j, x)).length (placeCells (meanIt ss (i, j, x))) := by
  have hlt := hv.small.lt hq
  have hx := placed_item hq
  dsimp only at hx hlt
  obtain ⟨u, h1, h2, h3⟩ := mean_look hv h hf (wf_small hlt.1) (wf_small hlt.2)
  rw [hx] at h1
  rcases h3 with ⟨h4, _⟩ | ⟨i', j', y, hi, hj, hy, _, h5⟩
  · rw [hx] at h4; cases h4
  · obtain rfl : i = i' := by omega
    obtain rfl : j = j' := by omega
    rw [hx] at hy
    cases hy
    exact ⟨u, h1, h2, h5⟩
set_option maxRecDepth 100000 in
set_option maxHeartbeats 4000000 in
theorem state_any {ss : List Sc} (hv : Valid ss) {w : World} {B R T M1 M2 MR : Nat} {v : Value} {ds : List Nd} {l : List Ent} (hR : ResW w B R T M1 M2 MR v ds ss l) {i j : Nat} {x : It} (hq : (i, j, x) ∈ placed 0 ss) :
    Calls Tryd.prog 119 #[.pointer (some ⟨R, 0, none⟩), .agg #[.int .i64 (i : Int), .int .i64 (j : Int)], .agg #[.int .i64 x.kind, .string x.name, .int .i64 x.scope]] w fun e w' => e = .returned (.int .i64 (stateIt ss (i, j, x))) ∧ Below w.heap.size w w' := by
  have hb0 : Below w.heap.size w ((w.alloc (.cells #[.int .i64 (i : Int), .int .i64 (j : Int)] 34)).alloc (.cells #[.int .i64 x.kind, .string x.name, .int .i64 x.scope] 60)).drew := (((Below.refl _ _).alloc (Nat.le_refl _) _).alloc (by simp) _).drew
  have HR1 := Lib.hid (hR.below hb0)
  have HB0 := Lib.hid hb0
  have p0 := cell_drew (((Row.new w [.int .i64 (i : Int), .int .i64 (j : Int)] 34).alloc (.cells #[.int .i64 x.kind, .string x.name, .int .i64 x.scope] 60)).cell (i := 0) (by rfl))
  have p1 := cell_drew (((Row.new w [.int .i64 (i : Int), .int .i64 (j : Int)] 34).alloc (.cells #[.int .i64 x.kind, .string x.name, .int .i64 x.scope] 60)).cell (i := 1) (by rfl))
  have hX := Row.new (w.alloc (.cells #[.int .i64 (i : Int), .int .i64 (j : Int)] 34)) [.int .i64 x.kind, .string x.name, .int .i64 x.scope] 60
  rw [World.size_alloc] at hX
  have x0 := cell_drew (hX.cell (i := 0) (by rfl))
  have r1 := HR1.out.box.cell (i := 1) (by rfl)
  have r0 := HR1.out.box.cell (i := 0) (by rfl)
  obtain ⟨u, -, hrun, hown⟩ := mean_at hv HR1.out.mean HR1.out.full hq
  obtain ⟨ou, cu, rfl, harg⟩ := argPlaces_of_owns hown
  have C := Lib.hid (moduleAlone_any (cap := cu) hv HR1.out.tree (by have := meanIt_length hv (i, j, x); omega) (meanIt_isPlace hq) harg)
  have HST : Hid (stateIt ss (i, j, x) = if (meanIt ss (i, j, x)).length = 0 then 2 else if 1 < (meanIt ss (i, j, x)).length then 3 else if x.kind = 3 ∧ aloneP ss (meanIt ss (i, j, x)) = -1 then 4 else 1) := Lib.hid rfl
  clear hb0 hR hX hown harg
  generalize meanIt ss (i, j, x) = ml at *
  by_cases h0 : ml.length = 0
  · have HE : Hid (stateIt ss (i, j, x) = 2) := Lib.hid (by rw [HST.out, if_pos h0])
    have k0 : ((ml.length : Int) == 0) = true := by rw [h0]; rfl
    clear h0 hv hq
    go_enter Tryd.func119, Tryd.ntmps119
    go_wp2
    go_region
    all_goals go_wp2
    all_goals go_ret
    all_goals exact ⟨by rw [HE.out]; rfl, HB0.out⟩
  · have k0 : ((ml.length : Int) == 0) = false := beq_eq_false_iff_ne.2 (by omega)
    by_cases h1 : 1 < ml.length
    · have HE : Hid (stateIt ss (i, j, x) = 3) := Lib.hid (by rw [HST.out, if_neg h0, if_pos h1])
      have k1 : (1 : Int) < (ml.length : Int) := by omega
      clear h0 h1 hv hq
      go_enter Tryd.func119, Tryd.ntmps119
      go_wp2
      go_region
      all_goals go_wp2
      all_goals go_ret
      all_goals exact ⟨by rw [HE.out]; rfl, HB0.out⟩
    · have k1 : ¬ (1 : Int) < (ml.length : Int) := by omega
      by_cases hk : x.kind = 3
      · have hq3 : (x.kind == 3) = true := by simpa using hk
        by_cases ha : aloneP ss ml = -1
        · have HE : Hid (stateIt ss (i, j, x) = 4) := Lib.hid (by rw [HST.out, if_neg h0, if_neg h1, if_pos ⟨hk, ha⟩])
          rw [ha] at C
          clear h0 h1 hv hq hk ha
          go_enter Tryd.func119, Tryd.ntmps119
          go_wp2
          go_region
          go_wp2_with fail
          refine C.out.mono ?_
          rintro e w3 ⟨rfl, hb3⟩
          have HB3 := Lib.hid (HB0.out.trans (hb3.mono HB0.out.size))
          clear hb3
          go_wp2
          go_ret
          exact ⟨by rw [HE.out]; rfl, HB3.out⟩
        · have HE : Hid (stateIt ss (i, j, x) = 1) := Lib.hid (by rw [HST.out, if_neg h0, if_neg h1, if_neg (fun h => ha h.2)])
          have ka : (aloneP ss ml == -1) = false := by simpa using ha
          clear h0 h1 hv hq hk ha
          go_enter Tryd.func119, Tryd.ntmps119
          go_wp2
          go_region
          go_wp2_with fail
          refine C.out.mono ?_
          rintro e w3 ⟨rfl, hb3⟩
          have HB3 := Lib.hid (HB0.out.trans (hb3.mono HB0.out.size))
          clear hb3
          go_wp2
          go_ret
          exact ⟨by rw [HE.out]; rfl, HB3.out⟩
      · have hq3 : (x.kind == 3) = false := by simpa using hk
        have HE : Hid (stateIt ss (i, j, x) = 1) := Lib.hid (by rw [HST.out, if_neg h0, if_neg h1, if_neg (fun h => hk h.1)])
        clear h0 h1 hv hq hk
        go_enter Tryd.func119, Tryd.ntmps119
        go_wp2
        go_region
        all_goals go_wp2
        all_goals go_ret
        all_goals exact ⟨by rw [HE.out]; rfl, HB0.out⟩
/-- There is an item; what it means. -/
def itemHas (ss : List Sc) (a b : Int) : Prop := Valid ss ∧ (itemAtP ss a b).isSome = true
def meanAt (ss : List Sc) (a b : Int) : List (Int × Int) := match itemAtP ss a b with
  | none => []
  | some x => meanIt ss (a.toNat, b.toNat, x)
theorem meanAt_of {ss : List Sc} {i j : Nat} {x : It} (h : (i, j, x) ∈ placed 0 ss) : meanAt ss (i : Int) (j : Int) = meanIt ss (i, j, x) := by
  have := placed_item h
  dsimp only at this
  unfold meanAt
  rw [this]
  rfl
theorem itemHas_of {ss : List Sc} (hv : Valid ss) {i j : Nat} {x : It} (h : (i, j, x) ∈ placed 0 ss) : itemHas ss (i : Int) (j : Int) := by
  have := placed_item h
  dsimp only at this
  exact ⟨hv, by rw [this]; rfl⟩
/-- What StateOf answers. -/
def StVal (ss : List Sc) (a b z : Int) : Prop := (Valid ss ∧ ∃ i j x, a = (i : Nat) ∧ b = (j : Nat) ∧ (i, j, x) ∈ placed 0 ss ∧ z = stateIt ss (i, j, x)) ∨ (¬ itemHas ss a b ∧ z = 0)
theorem StVal.same {ss : List Sc} {a b z z' : Int} (h : StVal ss a b z) (k : StVal ss a b z') : z = z' := by
  rcases h with ⟨hv, i, j, x, rfl, rfl, hx, rfl⟩ | ⟨hn, rfl⟩
  · rcases k with ⟨_, i', j', y, hi, hj, hy, rfl⟩ | ⟨kn, _⟩
    · obtain rfl : i = i' := by omega
      obtain rfl : j = j' := by omega
      have h1 := placed_item hx
      have h2 := placed_item hy
      dsimp only at h1 h2
      rw [h1] at h2
      cases h2
      rfl
    · exact absurd (itemHas_of hv hx) kn
  · rcases k with ⟨kv, i', j', y, rfl, rfl, hy, _⟩ | ⟨_, rfl⟩
    · exact absurd (itemHas_of kv hy) hn
    · rfl
def StGot (ss : List Sc) (a b : Int) (w : World) (e : Ending) (w' : World) : Prop := ∃ z, e = .returned (.int .i64 z) ∧ StVal ss a b z ∧ Below w.heap.size w w'
set_option maxRecDepth 100000 in
set_option maxHeartbeats 4000000 in
theorem implResolveItem_any (ss : List Sc) (hF : Fair ss) (oa : Option Addr) (cap : Nat) (a b : Int) (ha : (Lit.int .i64 a).wf = true) (hb' : (Lit.int .i64 b).wf = true) (w : World) (hc : HoldsScopes w oa ss) (hE : TreeErrs w) :
    Calls Tryd.prog 60 #[.agg #[.slice oa ss.length cap], .agg #[.int .i64 a, .int .i64 b]] w (PlGot (itemHas ss a b) (meanAt ss a b) w) := by
  have hb0 : Below w.heap.size w ((w.alloc (.cells #[.slice oa ss.length cap] 30)).alloc (.cells #[.int .i64 a, .int .i64 b] 34)) := ((Below.refl _ _).alloc (Nat.le_refl _) _).alloc (by simp) _
  have C := Lib.hid (resolutionOf_any ss hF oa cap _ (hc.below hb0 (Nat.le_refl _)) (hE.below hb0 hE.size))
  have RP : Hid (Row ((w.alloc (.cells #[.slice oa ss.length cap] 30)).alloc (.cells #[.int .i64 a, .int .i64 b] 34)) (w.heap.size + 1) 34 [.int .i64 a, .int .i64 b]) := Lib.hid (by
    have := Row.new (w.alloc (.cells #[.slice oa ss.length cap] 30)) [.int .i64 a, .int .i64 b] 34
    rw [World.size_alloc] at this
    exact this)
  have HB0 := Lib.hid hb0
  have HWF := Lib.hid (And.intro ha hb')
  clear hF hc hE hb0 ha hb'
  go_enter Tryd.func60, Tryd.ntmps60
  go_wp2_with fail
  refine C.out.mono ?_
  rintro e w1 (⟨hv, ⟨tp, p, rfl⟩, hb⟩ | ⟨hv, R, T, M1, M2, MR, v, ds, l, rfl, hb, hR⟩)
  · have HB := Lib.hid (HB0.out.trans (hb.mono HB0.out.size))
    have HN : Hid (¬ itemHas ss a b) := Lib.hid (fun h => hv h.1)
    clear hv hb
    go_wp2
    go_ret2
    exact .inl ⟨HN.out, rfl, HB.out⟩
  · have HB := Lib.hid (HB0.out.trans (hb.mono HB0.out.size))
    have RP1 := Lib.hid (RP.out.below hb RP.out.lt)
    have hRd := hR.below ((Below.refl w1.heap.size w1).drew)
    obtain ⟨u, hrun, -, hcase⟩ := mean_look hv hRd.mean hRd.full HWF.out.1 HWF.out.2
    have r1 := hRd.box.cell (i := 1) (by rfl)
    have p0 := cell_drew (RP1.out.cell (i := 0) (by rfl))
    have p1 := cell_drew (RP1.out.cell (i := 1) (by rfl))
    have HS0 := Lib.hid HB0.out.size
    have HV := Lib.hid hv
    clear hb hR hRd hv
    rcases hcase with ⟨hx, rfl⟩ | ⟨i, j, x, rfl, rfl, hx, hq, hown⟩
    · have HN : Hid (¬ itemHas ss a b) := Lib.hid (fun h => by have := h.2; rw [hx] at this; cases this)
      rw [hx] at hrun
      clear hx
      simp only [Option.isSome_none] at hrun
      go_wp2
      go_region
      all_goals go_wp2
      all_goals go_ret2
      all_goals exact .inl ⟨HN.out, rfl, HB.out.drew⟩
    · have HH := Lib.hid (itemHas_of HV.out hq)
      have HM := Lib.hid (meanAt_of hq)
      have HO := Lib.hid hown
      rw [hx] at hrun
      clear hx hq hown
      simp only [Option.isSome_some] at hrun
      go_wp2
      go_region
      all_goals go_wp2
      all_goals go_ret2
      all_goals exact .inr ⟨HH.out, u, rfl, by rw [HM.out]; exact ownsRow_lower HO.out HS0.out, HB.out.drew⟩
set_option maxRecDepth 100000 in
set_option maxHeartbeats 4000000 in
theorem implStateOf_any (ss : List Sc) (hF : Fair ss) (oa : Option Addr) (cap : Nat) (a b : Int) (ha : (Lit.int .i64 a).wf = true) (hb' : (Lit.int .i64 b).wf = true) (w : World) (hc : HoldsScopes w oa ss) (hE : TreeErrs w) :
    Calls Tryd.prog 62 #[.agg #[.slice oa ss.length cap], .agg #[.int .i64 a, .int .i64 b]] w (StGot ss a b w) := by
  have hb0 : Below w.heap.size w ((w.alloc (.cells #[.slice oa ss.length cap] 30)).alloc (.cells #[.int .i64 a, .int .i64 b] 34)) := ((Below.refl _ _).alloc (Nat.le_refl _) _).alloc (by simp) _
  have C := Lib.hid (resolutionOf_any ss hF oa cap _ (hc.below hb0 (Nat.le_refl _)) (hE.below hb0 hE.size))
  have RP : Hid (Row ((w.alloc (.cells #[.slice oa ss.length cap] 30)).alloc (.cells #[.int .i64 a, .int .i64 b] 34)) (w.heap.size + 1) 34 [.int .i64 a, .int .i64 b]) := Lib.hid (by
    have := Row.new (w.alloc (.cells #[.slice oa ss.length cap] 30)) [.int .i64 a, .int .i64 b] 34
    rw [World.size_alloc] at this
    exact this)
  have HB0 := Lib.hid hb0
  have HWF := Lib.hid (And.intro ha hb')
  clear hF hc hE hb0 ha hb'
  go_enter Tryd.func62, Tryd.ntmps62
  go_wp2_with fail
  refine C.out.mono ?_
  rintro e w1 (⟨hv, ⟨tp, p, rfl⟩, hb⟩ | ⟨hv, R, T, M1, M2, MR, v, ds, l, rfl, hb, hR⟩)
  · have HB := Lib.hid (HB0.out.trans (hb.mono HB0.out.size))
    have HN : Hid (¬ itemHas ss a b) := Lib.hid (fun h => hv h.1)
    clear hv hb
    go_wp2
    go_ret
    exact ⟨_, rfl, .inr ⟨HN.out, rfl⟩, HB.out⟩
  · have HB := Lib.hid (HB0.out.trans (hb.mono HB0.out.size))
    have RP1 := Lib.hid (RP.out.below hb RP.out.lt)
    have HRW1 := Lib.hid hR
    obtain ⟨hhas, hat⟩ := look_item hv.small HWF.out.1 HWF.out.2
    obtain ⟨n1, hm⟩ := hR.tree.items
    obtain ⟨v1, ps, hrun, hv1⟩ := (ownsMap_below hm ((Below.refl _ _).drew)).look_ok (t := 141) (e := 60) placeLaw Tryd.underlying141 (zeroItem _) (itemR_mk zeroIt) (pl_key HWF.out.1 HWF.out.2)
    have hbA := ((Below.refl w1.heap.size w1).alloc (Nat.le_refl _) (.cells #[.int .i64 0, .string ⟨#[]⟩, .int .i64 0] 60)).drew
    obtain ⟨v2, ps2, hrun2, hv2⟩ := (ownsMap_below hm hbA).look_ok (t := 141) (e := 60) placeLaw Tryd.underlying141 (zeroItem _) (itemR_mk zeroIt) (pl_key HWF.out.1 HWF.out.2)
    rw [hat] at hv1 hv2
    obtain rfl := itemR_eq hv1
    obtain rfl := itemR_eq hv2
    rw [hhas] at hrun hrun2
    have T1 := hR.tree.tree.box
    have t1 := T1.cell (i := 1) (by rfl)
    have t1' := (((Below.refl _ _).drew).cell (p := ⟨T, 1, none⟩) T1.lt).trans t1
    have t1A := (hbA.cell (p := ⟨T, 1, none⟩) T1.lt).trans t1
    have r1 := hR.box.cell (i := 0) (by rfl)
    have r1' := cell_drew r1
    have r1A := (hbA.cell (p := ⟨R, 0, none⟩) hR.box.lt).trans r1
    have p0 := RP1.out.cell (i := 0) (by rfl)
    have p1 := RP1.out.cell (i := 1) (by rfl)
    have p0' := cell_drew p0
    have p1' := cell_drew p1
    have p0A := (hbA.cell (p := ⟨w.heap.size + 1, 0, none⟩) RP1.out.lt).trans p0
    have p1A := (hbA.cell (p := ⟨w.heap.size + 1, 1, none⟩) RP1.out.lt).trans p1
    have HV := Lib.hid hv
    clear hb hhas hat hv1 hv2 hR hm hbA T1 hv
    have hcase : itemAtP ss a b = none ∨ ∃ x, itemAtP ss a b = some x := by cases itemAtP ss a b <;> simp
    rcases hcase with hx | ⟨x, hx⟩
    · have HN : Hid (¬ itemHas ss a b) := Lib.hid (fun h => by have := h.2; rw [hx] at this; cases this)
      rw [hx] at hrun hrun2
      simp only [Option.isSome_none, Option.getD_none, itV, zeroIt] at hrun hrun2
      clear hx
      go_wp2
      go_cut [7, 8] (fun s7 s8 wx => s8 = .bool false ∧ Below w1.heap.size w1 wx)
      case first =>
        go_region
        all_goals go_wp2
        all_goals go_meet
        all_goals exact ⟨rfl, ((Below.refl _ _).alloc (Nat.le_refl _) _).drew⟩
      case rest =>
        obtain ⟨rfl, hbc⟩ := hcut
        have HBC := Lib.hid (HB.out.trans (hbc.mono HB.out.size))
        clear hrun hrun2 t1 t1' t1A p0 p1 p0A p1A r1 r1' r1A p0' p1' hbc
        go_wp2
        go_ret
        exact ⟨_, rfl, .inr ⟨HN.out, rfl⟩, HBC.out⟩
    · obtain ⟨i, j, rfl, rfl, hq⟩ := item_placed hx
      have HQ := Lib.hid hq
      rw [hx] at hrun hrun2
      simp only [Option.isSome_some, Option.getD_some, itV] at hrun hrun2
      clear hx hq
      go_wp2
      go_cut [7, 8] (fun s7 s8 wx => s8 = .bool true ∧ ∃ g, s7 = .pointer (some ⟨g, 0, none⟩) ∧ w1.heap.size ≤ g ∧ Row wx g 60 [.int .i64 x.kind, .string x.name, .int .i64 x.scope] ∧ Below w1.heap.size w1 wx)
      case first =>
        go_region
        all_goals go_wp2
        all_goals go_meet
        all_goals exact ⟨rfl, _, rfl, Nat.le_refl _, Row.new w1 [.int .i64 x.kind, .string x.name, .int .i64 x.scope] 60, ((Below.refl _ _).alloc (Nat.le_refl _) _).drew⟩
      case rest =>
        obtain ⟨rfl, g, rfl, hg, hrow, hbc⟩ := hcut
        have HBC := Lib.hid (HB.out.trans (hbc.mono HB.out.size))
        have RP2 := Lib.hid (RP1.out.below hbc RP1.out.lt)
        have k0 := hrow.cell (i := 0) (by rfl)
        have k1 := hrow.cell (i := 1) (by rfl)
        have k2 := hrow.cell (i := 2) (by rfl)
        have q0 := RP2.out.cell (i := 0) (by rfl)
        have q1 := RP2.out.cell (i := 1) (by rfl)
        have C3 := Lib.hid (state_any HV.out (HRW1.out.below hbc) HQ.out)
        clear hrun hrun2 t1 t1' t1A p0 p1 p0A p1A r1 r1' r1A p0' p1' hrow hbc
        go_wp2_with fail
        refine C3.out.mono ?_
        rintro e w3 ⟨rfl, hb3⟩
        have HB3 := Lib.hid (HBC.out.trans (hb3.mono HBC.out.size))
        clear hb3
        go_wp2
        go_ret
        exact ⟨_, rfl, .inl ⟨HV.out, i, j, x, rfl, rfl, HQ.out, rfl⟩, HB3.out⟩
end Go.Proofs.YtppgdigcopkeiaaDoor
