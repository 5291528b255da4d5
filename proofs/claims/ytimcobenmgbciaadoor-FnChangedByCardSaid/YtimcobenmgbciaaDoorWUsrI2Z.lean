/-
  The walk of impl's UsersOf. Conditions: the argument's memory holds the graph; the package-level errors hold errors.
-/
import Derived.Test.YtimcobenmgbciaaDoorWUsrIZ
namespace Go.Proofs.YtimcobenmgbciaaDoor
open Go Go.RowKit Go.Maps
/-- Those of a list of places whose items mean one declaration. -/
def oneL (ss : List Sc) (l : List (Int × Int)) : List (Int × Int) := l.filter fun p => decide ((meanAt ss p.1 p.2).length = 1)
theorem oneL_snoc (ss : List Sc) (l : List (Int × Int)) (p : Int × Int) : oneL ss (l ++ [p]) = oneL ss l ++ if (meanAt ss p.1 p.2).length = 1 then [p] else [] := by
  unfold oneL
  rw [List.filter_append]
  congr 1
  by_cases h : (meanAt ss p.1 p.2).length = 1 <;> simp [h]
theorem oneL_length (ss : List Sc) (l : List (Int × Int)) : (oneL ss l).length ≤ l.length := List.length_filter_le _ _
theorem oneL_uses {ss : List Sc} (d : Int × Int) : ∀ l : List (Nat × Nat × It), (∀ q ∈ l, q ∈ placed 0 ss) → oneL ss (usesF ss l d) = filtL (aloneB ss d) l
  | [], _ => rfl
  | q :: r, h => by
    have ih := oneL_uses d r (fun p hp => h p (List.mem_cons_of_mem _ hp))
    have hm : meanAt ss (plOf q).1 (plOf q).2 = meanIt ss q := meanAt_of (h q List.mem_cons_self)
    have e1 : usesF ss (q :: r) d = (if q.2.2.kind = 1 then [] else usesK ss q (meanIt ss q).length d) ++ usesF ss r d := rfl
    have e2 : filtL (aloneB ss d) (q :: r) = (if aloneB ss d q = true then [plOf q] else []) ++ filtL (aloneB ss d) r := by
      unfold filtL
      rw [List.filter_cons]
      split <;> simp
    have e3 : oneL ss ((if q.2.2.kind = 1 then [] else usesK ss q (meanIt ss q).length d) ++ usesF ss r d) = oneL ss (if q.2.2.kind = 1 then [] else usesK ss q (meanIt ss q).length d) ++ oneL ss (usesF ss r d) := List.filter_append _ _
    rw [e1, e2, e3, ih]
    congr 1
    by_cases hk : q.2.2.kind = 1
    · rw [if_pos hk]
      unfold aloneB
      simp [hk, oneL]
    · rw [if_neg hk]
      by_cases hl : (meanIt ss q).length = 1
      · obtain ⟨e, he⟩ := List.length_eq_one_iff.1 hl
        have e4 : usesK ss q (meanIt ss q).length d = if e = d then [plOf q] else [] := by
          unfold usesK
          rw [List.take_length, he]
          by_cases hd : e = d <;> simp [hd]
        rw [e4]
        unfold aloneB
        rw [he]
        by_cases hd : e = d
        · rw [if_pos hd]
          have e5 : oneL ss [plOf q] = [plOf q] := by
            have h1 := oneL_snoc ss [] (plOf q)
            rw [hm, if_pos hl] at h1
            exact h1
          rw [e5]
          simp [hk, hd]
        · rw [if_neg hd]
          simp [hd, oneL]
      · have e5 : oneL ss (usesK ss q (meanIt ss q).length d) = [] := by
          unfold oneL usesK
          rw [List.filter_eq_nil_iff]
          intro p hp
          obtain ⟨e, _, he⟩ := List.mem_filterMap.1 hp
          split at he
          · rw [← Option.some.inj he, hm]
            simpa using hl
          · cases he
        rw [e5]
        unfold aloneB
        rw [decide_eq_false (show ¬ meanIt ss q = [d] from fun e => hl (by rw [e]; rfl))]
        simp
theorem uses_isPlace {ss : List Sc} {d : Int × Int} {p : Int × Int} (h : p ∈ usesF ss (placed 0 ss) d) : ∃ (i j : Nat) (x : It), p = ((i : Int), (j : Int)) ∧ (i, j, x) ∈ placed 0 ss := by
  unfold usesF at h
  obtain ⟨q, hq, hp⟩ := List.mem_flatMap.1 h
  split at hp
  · cases hp
  · unfold usesK at hp
    obtain ⟨e, _, he⟩ := List.mem_filterMap.1 hp
    split at he
    · exact ⟨q.1, q.2.1, q.2.2, (Option.some.inj he).symm, hq⟩
    · cases he
theorem declL_iff {ss : List Sc} (hv : Valid ss) {a b : Int} : (a, b) ∈ declL (placed 0 ss) ↔ declOk ss a b := by
  unfold declL filtL
  constructor
  · intro h
    obtain ⟨q, hq, he⟩ := List.mem_map.1 h
    obtain ⟨h1, h2⟩ := List.mem_filter.1 hq
    have h3 := placed_item h1
    cases he
    exact ⟨hv, q.2.2, h3, by simpa using h2⟩
  · rintro ⟨_, x, hx, hk⟩
    obtain ⟨i, j, rfl, rfl, hq⟩ := item_placed hx
    exact List.mem_map.2 ⟨(i, j, x), List.mem_filter.2 ⟨hq, by simpa using hk⟩, rfl⟩
set_option maxRecDepth 100000 in
set_option maxHeartbeats 8000000 in
theorem implUsersOf_any (ss : List Sc) (hF : Fair ss) (oa : Option Addr) (cap : Nat) (a b : Int) (ha : (Lit.int .i64 a).wf = true) (hb' : (Lit.int .i64 b).wf = true) (w : World) (hc : HoldsScopes w oa ss) (hE : TreeErrs w) :
    Calls Tryd.prog 29 #[.agg #[.slice oa ss.length cap], .agg #[.int .i64 a, .int .i64 b]] w (PlGot (declOk ss a b) (usersP ss (a, b)) w) := by
  have hb0 := ((Below.refl w.heap.size w).alloc (Nat.le_refl _) (.cells #[.slice oa ss.length cap] 25)).alloc (by simp) (.cells #[.int .i64 a, .int .i64 b] 27)
  have R1 := Lib.hid ((Row.new w [.slice oa ss.length cap] 25).alloc (.cells #[.int .i64 a, .int .i64 b] 27))
  have R2 := Row.new (w.alloc (.cells #[.slice oa ss.length cap] 25)) [.int .i64 a, .int .i64 b] 27
  rw [World.size_alloc] at R2
  have R2 := Lib.hid R2
  have C := Lib.hid (resolutionOf_any ss hF oa cap _ (hc.below hb0 (Nat.le_refl _)) (hE.below hb0 hE.size))
  have HB := Lib.hid hb0
  have HWF := Lib.hid (And.intro ha hb')
  have g1 := R1.out.cell (i := 0) (v := .slice oa ss.length cap) (by rfl)
  clear hF hc hE hb0 ha hb'
  go_enter Tryd.func29, Tryd.ntmps29
  go_wp2_with fail
  refine C.out.mono ?_
  rintro e w1 (⟨hv, ⟨tp, p, rfl⟩, hb1⟩ | ⟨hv, RR, T, M1, M2, MR, v, ds, le, rfl, hb1, hR⟩)
  · have HN : Hid (¬ declOk ss a b) := Lib.hid (fun h => hv h.1)
    have HB1 := Lib.hid (HB.out.trans (hb1.mono HB.out.size))
    clear hv hb1
    go_wp2
    go_ret2
    exact .inl ⟨HN.out, rfl, HB1.out⟩
  · have HV := Lib.hid hv
    have HB1 := Lib.hid (HB.out.trans (hb1.mono HB.out.size))
    have R2a := Lib.hid (R2.out.below hb1 R2.out.lt)
    have HR := Lib.hid hR
    have p0 := cell_drew (R2a.out.cell (i := 0) (v := .int .i64 a) (by rfl))
    have p1 := cell_drew (R2a.out.cell (i := 1) (v := .int .i64 b) (by rfl))
    have CU := Lib.hid (users_any hv (hR.below ((Below.refl _ _).drew)))
    have HD0 : Hid (Below w1.heap.size w1 w1.drew) := Lib.hid ((Below.refl _ _).drew)
    clear hv hb1 hR g1
    go_wp2
    refine wp_region_kept (S := fun w' => w'.cell? ⟨w.heap.size + 1, 0, none⟩ = some (.int .i64 a) ∧ w'.cell? ⟨w.heap.size + 1, 1, none⟩ = some (.int .i64 b)) 8 (by kernel_rfl) ?_
    have hS0 := And.intro p0 p1
    refine KeptAny.take (i := 0) (v := ?_) (by kernel_rfl) rfl rfl (by kernel_rfl) (by kernel_rfl) (by kernel_rfl) (fun _ _ _ h => h) (by rfl) (fun w' hw' => ?_) (fun _ => rfl) hS0 ?_
    rotate_left
    · (obtain ⟨g0, g1⟩ := hw'; go_simp; try with_reducible rfl)
    refine KeptAny.take (i := 2) (v := ?_) (by kernel_rfl) rfl rfl (by kernel_rfl) (by kernel_rfl) (by kernel_rfl) (fun _ _ _ h => h) (by rfl) (fun w' hw' => ?_) (fun _ => rfl) hS0 ?_
    rotate_left
    · (obtain ⟨g0, g1⟩ := hw'; go_simp; try with_reducible rfl)
    refine KeptAny.one (i := 1) (by kernel_rfl) rfl (by rfl) (fun K hK => ?_)
    go_simp
    refine ⟨trivial, ?_⟩
    refine ((callsIn_wide (n := 5)).2 CU.out).mono ?_
    rintro e w2 ⟨MU, nu, rfl, hU, hb2⟩
    obtain ⟨u, hrun, hu⟩ := usr_look hU HWF.out.1 HWF.out.2
    obtain ⟨q, hq⟩ : ∃ q, decide ((a, b) ∈ declL (placed 0 ss)) = q := ⟨_, rfl⟩
    rw [hq] at hrun
    have HB2 := Lib.hid (HB1.out.trans ((HD0.out.trans (hb2.mono HD0.out.size)).mono HB1.out.size))
    have HRW := Lib.hid (HR.out.below (HD0.out.trans (hb2.mono HD0.out.size)))
    have HUU := Lib.hid hu
    have HQQ := Lib.hid hq
    obtain ⟨ou, nul, cu, rfl, HLEN⟩ : ∃ ou nul cu, u = .slice ou nul cu ∧ Hid (nul = if (a, b) ∈ declL (placed 0 ss) then (usesF ss (placed 0 ss) (a, b)).length else 0) := by
      rcases hu with ⟨h1, rfl⟩ | ⟨h1, h2⟩
      · exact ⟨none, 0, 0, rfl, Lib.hid (by rw [if_neg h1])⟩
      · obtain ⟨o, c, rfl⟩ := ownsRow_slice h2
        exact ⟨o, _, c, rfl, Lib.hid (by rw [if_pos h1])⟩
    have hS2 := And.intro (cell_grow hb2 hS0.1) (cell_grow hb2 hS0.2)
    refine hK.out _ _ hS2 (fun _ => ?_)
    clear hK hU hb2 hu hq hS0 p0 p1
    refine KeptAny.one (i := 3) (by kernel_rfl) rfl (by rfl) (fun K hK => ?_)
    go_simp
    refine hK.out _ _ hS2 (fun _ => ?_)
    clear hK
    refine KeptAny.one (i := 4) (by kernel_rfl) rfl (by rfl) (fun K hK => ?_)
    go_simp
    refine hK.out _ _ hS2 (fun _ => ?_)
    clear hK
    refine KeptAny.take (i := 5) (v := ?_) (by kernel_rfl) rfl rfl (by kernel_rfl) (by kernel_rfl) (by kernel_rfl) (fun _ _ _ h => h) (by rfl) (fun w' hw' => ?_) (fun _ => rfl) hS2 ?_
    rotate_left
    · (obtain ⟨g0, g1⟩ := hw'; go_simp; try with_reducible rfl)
    refine KeptAny.take (i := 6) (v := ?_) (by kernel_rfl) rfl rfl (by kernel_rfl) (by kernel_rfl) (by kernel_rfl) (fun _ _ _ h => h) (by rfl) (fun w' hw' => ?_) (fun _ => rfl) hS2 ?_
    rotate_left
    · (obtain ⟨g0, g1⟩ := hw'; go_simp; try with_reducible rfl)
    refine KeptAny.one (i := 7) (by kernel_rfl) rfl (by rfl) (fun K hK => ?_)
    go_simp
    refine hK.out _ _ hS2 (fun _ => ?_)
    clear hK
    refine KeptAny.last (by kernel_rfl) rfl (by rfl) (fun K hK => ?_)
    go_simp
    refine hK.out _ _ ?_
    clear hK hS2 hrun
    refine KeptAny.done (by kernel_rfl) ?_ _
    cases q
    · have HN : Hid ((a, b) ∉ declL (placed 0 ss)) := Lib.hid (by simpa using HQQ.out)
      obtain rfl : nul = 0 := by rw [HLEN.out, if_neg HN.out]
      have HND : Hid (¬ declOk ss a b) := Lib.hid (fun h => HN.out ((declL_iff HV.out).2 h))
      go_wp2
      go_loopw [10, 29] (fun v i wr => v = .slice none 0 0 ∧ i = .int .i64 0 ∧ Hid (Below w.heap.size w wr)) (fun _ _ _ => 0)
      case atStart => exact ⟨rfl, rfl, HB2⟩
      case round =>
        obtain ⟨rfl, rfl, HW⟩ := hrel
        go_wp2
        go_ret2
        exact .inl ⟨HND.out, rfl, HW.out⟩
    · have HY : Hid ((a, b) ∈ declL (placed 0 ss)) := Lib.hid (by simpa using HQQ.out)
      have HYD : Hid (declOk ss a b) := Lib.hid ((declL_iff HV.out).1 HY.out)
      have HNL : Hid (nul = (usesF ss (placed 0 ss) (a, b)).length) := Lib.hid (by rw [HLEN.out, if_pos HY.out])
      have hAA : ArgPlaces w2 ou (usesF ss (placed 0 ss) (a, b)) := by
        rcases HUU.out with ⟨h1, _⟩ | ⟨_, h2⟩
        · exact absurd HY.out h1
        · obtain ⟨o, c, he, hA⟩ := argPlaces_of_owns h2
          simp only [Value.slice.injEq] at he
          rw [he.1]
          exact hA
      have hul := usesF_length HV.out (a, b) (placed 0 ss)
      have h30 := placed_bound 0 ss 6 5 HV.out.count.2 HV.out.five
      have HOL : Hid (oneL ss (usesF ss (placed 0 ss) (a, b)) = usersP ss (a, b)) := Lib.hid (oneL_uses (a, b) _ (fun q hq => hq))
      have HUP : Hid (∀ p ∈ usesF ss (placed 0 ss) (a, b), ∃ (i j : Nat) (x : It), p = ((i : Int), (j : Int)) ∧ (i, j, x) ∈ placed 0 ss) := Lib.hid (fun p hp => uses_isPlace hp)
      obtain ⟨ul, hule⟩ : ∃ ul, usesF ss (placed 0 ss) (a, b) = ul := ⟨_, rfl⟩
      rw [hule] at HNL hAA hul HOL HUP
      have HAA := Lib.hid hAA
      have hn1 : nul ≤ 750 := by rw [HNL.out]; omega
      clear hAA hule hul h30
      go_wp2
      go_loopw [10, 29] (fun v i wr => ∃ k : Nat, i = .int .i64 k ∧ k ≤ nul ∧ Hid (wr.ownsRow w2.heap.size 27 2 v (oneL ss (ul.take k)).length (placeCells (oneL ss (ul.take k))) ∧ Below w2.heap.size w2 wr)) (fun _ i _ => nul - (intOf i).toNat)
      case atStart => exact ⟨0, rfl, Nat.zero_le _, Lib.hid ⟨World.ownsRow_nil _ _ _ _, Below.refl _ _⟩⟩
      case round =>
        obtain ⟨k, rfl, hk, HW⟩ := hrel
        obtain ⟨ov, cv, rfl⟩ := ownsRow_slice HW.out.1
        by_cases hlt : k < nul
        · obtain ⟨p, hp⟩ : ∃ p, ul[k]? = some p := ⟨_, List.getElem?_eq_getElem (by rw [← HNL.out]; exact hlt)⟩
          obtain ⟨ci, cj, cx, rfl, hcq⟩ := HUP.out p (List.mem_of_getElem? hp)
          obtain ⟨b2, f2, rfl, hb2, q2⟩ := (HAA.out.below HW.out.2).at (by have := HNL.out; omega)
          obtain ⟨y0, y1⟩ := q2 k _ hp
          dsimp only at y0 y1
          have hbd := ((Below.refl wr.heap.size wr).alloc (Nat.le_refl _) (.cells #[.int .i64 (ci : Int), .int .i64 (cj : Int)] 27)).drew
          have RD := (Row.new wr [.int .i64 (ci : Int), .int .i64 (cj : Int)] 27).drew
          have d0 := RD.cell (i := 0) (v := .int .i64 (ci : Int)) (by rfl)
          have d2 := RD.cell (i := 1) (v := .int .i64 (cj : Int)) (by rfl)
          have hRD := HRW.out.below (HW.out.2.trans (hbd.mono HW.out.2.size))
          have m1 := hRD.box.cell (i := 1) (v := .map (some MR)) (by rfl)
          obtain ⟨um, -, hrunm, hownm⟩ := mean_at HV.out hRD.mean hRD.full hcq
          obtain ⟨om, cm, rfl⟩ := ownsRow_slice hownm
          have hma := meanAt_of hcq
          obtain ⟨L, hL⟩ : ∃ L, (meanIt ss (ci, cj, cx)).length = L := ⟨_, rfl⟩
          rw [hL] at hrunm
          have hLb : L ≤ 25 := by rw [← hL]; exact meanIt_length HV.out _
          have HST : Hid (oneL ss (ul.take (k + 1)) = oneL ss (ul.take k) ++ if L = 1 then [((ci : Int), (cj : Int))] else []) := Lib.hid (by
            rw [List.take_add_one, hp]
            have h1 := oneL_snoc ss (ul.take k) ((ci : Int), (cj : Int))
            dsimp only at h1
            rw [hma, hL] at h1
            exact h1)
          have hsl : (oneL ss (ul.take k)).length < 1000000 := by
            have h1 := oneL_length ss (ul.take k)
            rw [List.length_take] at h1
            omega
          have HW2 := Lib.hid (And.intro (ownsRow_below HW.out.1 hbd) (HW.out.2.trans (hbd.mono HW.out.2.size)))
          have HSZ : Hid (w2.heap.size ≤ wr.heap.size) := Lib.hid HW.out.2.size
          clear hbd RD hRD hownm hma hL hp hcq q2 hb2
          by_cases h1 : L = 1
          · have d3 : ((L : Int) == 1) = true := by rw [h1]; rfl
            have HE : Hid (oneL ss (ul.take (k + 1)) = oneL ss (ul.take k) ++ [((ci : Int), (cj : Int))]) := Lib.hid (by rw [HST.out, if_pos h1])
            obtain ⟨v', w', hrun', hown', hgrow, -⟩ := append_placeW HW2.out.1 (ci : Int) (cj : Int) hsl (by have := HSZ.out; simp; omega) 30
            have HP4 : Hid (w'.ownsRow w2.heap.size 27 2 v' (oneL ss (ul.take (k + 1))).length (placeCells (oneL ss (ul.take (k + 1)))) ∧ Below w2.heap.size w2 w') := Lib.hid
              ⟨by rw [HE.out, List.length_append, placeCells_snoc]; exact hown', HW2.out.2.trans (below_append2 HW2.out.1 hgrow (Nat.le_refl w2.heap.size) HW2.out.2.size)⟩
            obtain ⟨ov', cv', rfl⟩ := ownsRow_slice hown'
            rw [show (wr.alloc (.cells #[.int .i64 (ci : Int), .int .i64 (cj : Int)] 27)).drew.heap.size = wr.heap.size + 1 from World.size_alloc _ _] at hrun'
            have hrun2 : (Builtin.append_ #[30, 30] 30 #[.slice ov (oneL ss (ul.take k)).length cv, .slice (some ⟨wr.heap.size + 1, 0, none⟩) 1 1]).run Tryd.prog (((wr.alloc (.cells #[.int .i64 (ci : Int), .int .i64 (cj : Int)] 27)).alloc (.cells #[.int .i64 (ci : Int), .int .i64 (cj : Int)] 27)).drew) = .ok _ w' := hrun'
            clear hown' hgrow h1 hrun'
            go_wp2
            go_region
            all_goals go_wp2_with (at_builtin; refine wpList_append_run rfl _ _ 30 rfl hrun2 ?_)
            go_roundw
            case rel => exact ⟨k + 1, by go_num, by omega, HP4⟩
            case measure => simp only [intOf]; omega
          · have d3 : ((L : Int) == 1) = false := by simp; omega
            have HE : Hid (oneL ss (ul.take (k + 1)) = oneL ss (ul.take k)) := Lib.hid (by rw [HST.out, if_neg h1, List.append_nil])
            clear h1
            go_wp2
            go_region
            all_goals go_wp2
            go_roundw
            case rel => exact ⟨k + 1, by go_num, by omega, Lib.hid ⟨by rw [HE.out]; exact HW2.out.1, HW2.out.2⟩⟩
            case measure => simp only [intOf]; omega
        · have hfull : ul.take k = ul := List.take_of_length_le (by have := HNL.out; omega)
          have HO := Lib.hid HW.out.1
          rw [hfull, HOL.out] at HO
          have HOO : Hid (wr.ownsRow w.heap.size 27 2 (.slice ov (usersP ss (a, b)).length cv) (usersP ss (a, b)).length (placeCells (usersP ss (a, b))) ∧ Below w.heap.size w wr) := Lib.hid ⟨ownsRow_lower (by
            have h := HW.out.1
            rw [hfull, HOL.out] at h
            exact h) HB2.out.size, HB2.out.trans (HW.out.2.mono HB2.out.size)⟩
          have hlen : (oneL ss (ul.take k)).length = (usersP ss (a, b)).length := by rw [hfull, HOL.out]
          clear HO hfull
          go_wp2
          go_ret2
          exact .inr ⟨HYD.out, _, by rw [hlen]; rfl, HOO.out.1, HOO.out.2⟩
end Go.Proofs.YtimcobenmgbciaaDoor
