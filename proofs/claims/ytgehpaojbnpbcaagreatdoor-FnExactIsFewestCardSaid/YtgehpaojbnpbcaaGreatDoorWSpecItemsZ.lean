/-
  The walks of the given l4Resolve, ResolveItem and StateOf. Condition: the argument's memory holds the graph. The walks of the given l4Items, ItemsIn and IsSound. Conditions: the argument's memory holds the graph; it has at most 2^20 items.
-/
import Derived.Test.YtgehpaojbnpbcaaGreatDoorJEZ
import Derived.Test.YtgehpaojbnpbcaaGreatDoorJDZ
import Derived.Test.YtgehpaojbnpbcaaGreatDoorWImplItemsZ
namespace Go.Proofs.YtgehpaojbnpbcaaGreatDoor
open Go Go.RowKit Go.Maps
attribute [local go_sem ↓] field_kind field_name field_scope
set_option maxRecDepth 100000 in
set_option maxHeartbeats 4000000 in
theorem specResolve_any (ss : List Sc) (hv : Valid ss) (hf : FitsScopes ss) (oa : Option Addr) (cap : Nat) {i j : Nat} {x : It} (hq : (i, j, x) ∈ placed 0 ss) (w : World) (hc : HoldsScopes w oa ss) :
    Calls Tryz.prog 61 #[.agg #[.slice oa ss.length cap], .agg #[.int .i64 (i : Int), .int .i64 (j : Int)]] w (PlsGot (meanIt ss (i, j, x)) w) := by
  have hb0 : Below w.heap.size w ((w.alloc (.cells #[.slice oa ss.length cap] 28)).alloc (.cells #[.int .i64 (i : Int), .int .i64 (j : Int)] 59)) := ((Below.refl _ _).alloc (Nat.le_refl _) _).alloc (by simp) _
  have RG := Lib.hid ((Row.new w [.slice oa ss.length cap] 28).alloc (.cells #[.int .i64 (i : Int), .int .i64 (j : Int)] 59))
  have RP : Hid (Row ((w.alloc (.cells #[.slice oa ss.length cap] 28)).alloc (.cells #[.int .i64 (i : Int), .int .i64 (j : Int)] 59)) (w.heap.size + 1) 59 [.int .i64 (i : Int), .int .i64 (j : Int)]) := Lib.hid (by
    have := Row.new (w.alloc (.cells #[.slice oa ss.length cap] 28)) [.int .i64 (i : Int), .int .i64 (j : Int)] 59
    rw [World.size_alloc] at this
    exact this)
  obtain ⟨c, hsc, hx⟩ := placed_at hq
  dsimp only at hsc hx
  have C := Lib.hid (specAt_any ss hf oa cap i j c x hsc hx _ (hc.below hb0 (Nat.le_refl _)))
  have HSL := Lib.hid (List.getElem?_eq_some_iff.1 hsc).1
  have HB0 := Lib.hid hb0
  have HC := Lib.hid hc
  have HF := Lib.hid hf
  have HV := Lib.hid hv
  have HK : Hid (meanIt ss (i, j, x) = if x.kind = 2 then (lookP ss i x.name).places else if x.kind = 3 then meantP ss i x.name else [((i : Int), (j : Int))]) := Lib.hid rfl
  clear hf hc hb0 hv hq hsc hx
  unfold itV at C
  go_enter Tryz.func61, Tryz.ntmps61
  go_wp2_with fail
  refine C.out.mono ?_
  rintro e w1 ⟨rfl, hb1⟩
  have hbx := hb1.trans ((Below.refl w1.heap.size w1).alloc (Nat.le_refl _) (.cells #[.int .i64 x.kind, .string x.name, .int .i64 x.scope] 137) |>.mono hb1.size)
  have HB2 := Lib.hid (HB0.out.trans (hbx.mono HB0.out.size))
  have g2 := (RG.out.below hbx RG.out.lt).cell (i := 0) (v := .slice oa ss.length cap) (by rfl)
  have p2 := (RP.out.below hbx RP.out.lt).cell (i := 0) (v := .int .i64 (i : Int)) (by rfl)
  have p3 := (RP.out.below hbx RP.out.lt).cell (i := 1) (v := .int .i64 (j : Int)) (by rfl)
  clear hb1 hbx
  by_cases hk2 : x.kind = 2
  · have hq2 : (x.kind == 2) = true := by simpa using hk2
    have HE : Hid (meanIt ss (i, j, x) = (lookP ss i x.name).places) := Lib.hid (by rw [HK.out, if_pos hk2])
    have C2 := Lib.hid (specLookUp3_any ss HV.out HF.out oa cap i HSL.out x.name _ (HC.out.below HB2.out (Nat.le_refl _)))
    clear hk2
    go_wp2_with fail
    refine C2.out.mono ?_
    rintro e w3 ⟨u, rfl, hu, hb3⟩
    have HB3 := Lib.hid (HB2.out.trans (hb3.mono HB2.out.size))
    have HU := Lib.hid (ownsRow_lower hu HB2.out.size)
    clear hb3 hu
    go_wp2
    go_ret
    exact ⟨_, rfl, by rw [HE.out]; exact HU.out, HB3.out⟩
  · have hq2 : (x.kind == 2) = false := by simpa using hk2
    by_cases hk3 : x.kind = 3
    · have hq3 : (x.kind == 3) = true := by simpa using hk3
      have HE : Hid (meanIt ss (i, j, x) = meantP ss i x.name) := Lib.hid (by rw [HK.out, if_neg hk2, if_pos hk3])
      have C2 := Lib.hid (specMeant_any ss HV.out HF.out oa cap i HSL.out x.name _ (HC.out.below HB2.out (Nat.le_refl _)))
      clear hk2 hk3
      go_wp2_with fail
      refine C2.out.mono ?_
      rintro e w3 ⟨u, rfl, hu, hb3⟩
      have HB3 := Lib.hid (HB2.out.trans (hb3.mono HB2.out.size))
      have HU := Lib.hid (ownsRow_lower hu HB2.out.size)
      clear hb3 hu
      go_wp2
      go_ret
      exact ⟨_, rfl, by rw [HE.out]; exact HU.out, HB3.out⟩
    · have hq3 : (x.kind == 3) = false := by simpa using hk3
      have HE : Hid (meanIt ss (i, j, x) = [((i : Int), (j : Int))]) := Lib.hid (by rw [HK.out, if_neg hk2, if_neg hk3])
      have hO := ownsRow_one (W := w1.alloc (.cells #[.int .i64 x.kind, .string x.name, .int .i64 x.scope] 137)) HB2.out.size (i : Int) (j : Int)
      rw [World.size_alloc] at hO
      have HO := Lib.hid hO
      clear hk2 hk3 hO
      go_wp2
      go_ret
      exact ⟨_, rfl, by rw [HE.out]; exact HO.out, HB2.out.alloc HB2.out.size _⟩
set_option maxRecDepth 100000 in
set_option maxHeartbeats 4000000 in
theorem specResolveItem_any (ss : List Sc) (hf : FitsScopes ss) (oa : Option Addr) (cap : Nat) (a b : Int) (w : World) (hc : HoldsScopes w oa ss) :
    Calls Tryz.prog 132 #[.agg #[.slice oa ss.length cap], .agg #[.int .i64 a, .int .i64 b]] w (PlGot2 (itemHas ss a b) (meanAt ss a b) w) := by
  have hb0 : Below w.heap.size w ((w.alloc (.cells #[.slice oa ss.length cap] 28)).alloc (.cells #[.int .i64 a, .int .i64 b] 59)) := ((Below.refl _ _).alloc (Nat.le_refl _) _).alloc (by simp) _
  have RG := Lib.hid ((Row.new w [.slice oa ss.length cap] 28).alloc (.cells #[.int .i64 a, .int .i64 b] 59))
  have RP : Hid (Row ((w.alloc (.cells #[.slice oa ss.length cap] 28)).alloc (.cells #[.int .i64 a, .int .i64 b] 59)) (w.heap.size + 1) 59 [.int .i64 a, .int .i64 b]) := Lib.hid (by
    have := Row.new (w.alloc (.cells #[.slice oa ss.length cap] 28)) [.int .i64 a, .int .i64 b] 59
    rw [World.size_alloc] at this
    exact this)
  have C := Lib.hid (specValid_any ss oa cap _ hf (hc.below hb0 (Nat.le_refl _)))
  have HB0 := Lib.hid hb0
  have HC := Lib.hid hc
  have HF := Lib.hid hf
  clear hf hc hb0
  go_enter Tryz.func132, Tryz.ntmps132
  go_wp2_with fail
  refine C.out.mono ?_
  rintro e w1 ⟨q, rfl, hv, hb⟩
  have HB := Lib.hid (HB0.out.trans (hb.mono HB0.out.size))
  have RG1 := Lib.hid (RG.out.below hb RG.out.lt)
  have RP1 := Lib.hid (RP.out.below hb RP.out.lt)
  have HV := Lib.hid hv
  have g1 := RG1.out.cell (i := 0) (by rfl)
  have p0 := RP1.out.cell (i := 0) (by rfl)
  have p1 := RP1.out.cell (i := 1) (by rfl)
  clear hb hv
  cases q
  · have HN : Hid (¬ itemHas ss a b) := Lib.hid (fun h => by have := HV.out.2 h.1; cases this)
    go_wp2
    go_ret2
    exact .inl ⟨HN.out, _, rfl, HB.out.alloc HB.out.size _⟩
  · have HVV := Lib.hid (HV.out.1 rfl)
    have C2 := Lib.hid (specHas_any ss HF.out oa cap a b _ (HC.out.below HB.out (Nat.le_refl _)))
    go_wp2_with fail
    refine C2.out.mono ?_
    rintro e w2 ⟨rfl, hb2⟩
    have HB2 := Lib.hid (HB.out.trans (hb2.mono HB.out.size))
    have RG2 := Lib.hid (RG1.out.below hb2 RG1.out.lt)
    have RP2 := Lib.hid (RP1.out.below hb2 RP1.out.lt)
    have g2 := RG2.out.cell (i := 0) (by rfl)
    have q0 := RP2.out.cell (i := 0) (by rfl)
    have q1 := RP2.out.cell (i := 1) (by rfl)
    clear hb2 g1 p0 p1
    have hcase : itemAtP ss a b = none ∨ ∃ x, itemAtP ss a b = some x := by cases itemAtP ss a b <;> simp
    rcases hcase with hx | ⟨x, hx⟩
    · have HN : Hid (¬ itemHas ss a b) := Lib.hid (fun h => by have := h.2; rw [hx] at this; cases this)
      rw [hx]
      clear hx
      simp only [Option.isSome_none]
      go_wp2
      go_ret2
      exact .inl ⟨HN.out, _, rfl, HB2.out.alloc HB2.out.size _⟩
    · obtain ⟨i, j, rfl, rfl, hq⟩ := item_placed hx
      have HM := Lib.hid (meanAt_of hq)
      have HH := Lib.hid (itemHas_of HVV.out hq)
      have C3 := Lib.hid (specResolve_any ss HVV.out HF.out oa cap hq _ (HC.out.below HB2.out (Nat.le_refl _)))
      rw [hx]
      clear hx hq
      simp only [Option.isSome_some]
      go_wp2_with fail
      refine C3.out.mono ?_
      rintro e w3 ⟨u, rfl, hu, hb3⟩
      have HB3 := Lib.hid (HB2.out.trans (hb3.mono HB2.out.size))
      have HU := Lib.hid (ownsRow_lower hu HB2.out.size)
      clear hb3 hu
      go_wp2
      go_ret2
      exact .inr ⟨HH.out, u, rfl, by rw [HM.out]; exact HU.out, HB3.out⟩
theorem alone_neg {ss : List Sc} (hv : Valid ss) {p : Int × Int} {i j : Nat} {c : Sc} {y : It} (hp : p = ((i : Int), (j : Int))) (hc : ss[i]? = some c) (hy : c.items[j]? = some y) : aloneP ss [p] = y.scope ∧ (y.scope < 0 ↔ y.scope = -1) := by
  subst hp
  refine ⟨scopeAt_of hc hy, ?_⟩
  rcases scope_ok hv (placed_of hc hy) with h | ⟨m, h, _⟩ <;> dsimp only at h <;> omega
set_option maxRecDepth 100000 in
set_option maxHeartbeats 4000000 in
theorem specStateOf_any (ss : List Sc) (hf : FitsScopes ss) (oa : Option Addr) (cap : Nat) (a b : Int) (w : World) (hc : HoldsScopes w oa ss) :
    Calls Tryz.prog 121 #[.agg #[.slice oa ss.length cap], .agg #[.int .i64 a, .int .i64 b]] w (StGot ss a b w) := by
  have hb0 : Below w.heap.size w ((w.alloc (.cells #[.slice oa ss.length cap] 28)).alloc (.cells #[.int .i64 a, .int .i64 b] 59)) := ((Below.refl _ _).alloc (Nat.le_refl _) _).alloc (by simp) _
  have RG := Lib.hid ((Row.new w [.slice oa ss.length cap] 28).alloc (.cells #[.int .i64 a, .int .i64 b] 59))
  have RP : Hid (Row ((w.alloc (.cells #[.slice oa ss.length cap] 28)).alloc (.cells #[.int .i64 a, .int .i64 b] 59)) (w.heap.size + 1) 59 [.int .i64 a, .int .i64 b]) := Lib.hid (by
    have := Row.new (w.alloc (.cells #[.slice oa ss.length cap] 28)) [.int .i64 a, .int .i64 b] 59
    rw [World.size_alloc] at this
    exact this)
  have C := Lib.hid (specResolveItem_any ss hf oa cap a b _ (hc.below hb0 (Nat.le_refl _)))
  have HB0 := Lib.hid hb0
  have HC := Lib.hid hc
  have HF := Lib.hid hf
  clear hf hc hb0
  go_enter Tryz.func121, Tryz.ntmps121
  go_wp2_with fail
  refine C.out.mono ?_
  rintro e w1 (⟨hn, g, rfl, hb⟩ | ⟨hh, u, rfl, hu, hb⟩)
  · have HB := Lib.hid (HB0.out.trans (hb.mono HB0.out.size))
    have HN := Lib.hid hn
    clear hb hn
    go_wp2
    go_ret
    exact ⟨_, rfl, .inr ⟨HN.out, rfl⟩, HB.out⟩
  · obtain ⟨hv, his⟩ := hh
    obtain ⟨x, hx⟩ := Option.isSome_iff_exists.1 his
    obtain ⟨i, j, rfl, rfl, hq⟩ := item_placed hx
    rw [meanAt_of hq] at hu
    obtain ⟨ou, cu, rfl, harg⟩ := argPlaces_of_owns hu
    have HB := Lib.hid (HB0.out.trans (hb.mono HB0.out.size))
    have RG1 := Lib.hid (RG.out.below hb RG.out.lt)
    have RP1 := Lib.hid (RP.out.below hb RP.out.lt)
    have HQ := Lib.hid hq
    have HV := Lib.hid hv
    have HA := Lib.hid harg
    have HIP := Lib.hid (meanIt_isPlace hq)
    have HST : Hid (stateIt ss (i, j, x) = if (meanIt ss (i, j, x)).length = 0 then 2 else if 1 < (meanIt ss (i, j, x)).length then 3 else if x.kind = 3 ∧ aloneP ss (meanIt ss (i, j, x)) = -1 then 4 else 1) := Lib.hid rfl
    have HG : ∀ z, z = stateIt ss (i, j, x) → StVal ss (i : Int) (j : Int) z := fun z hz => .inl ⟨hv, i, j, x, rfl, rfl, hq, hz⟩
    have HGG := Lib.hid HG
    clear hb his hx hu harg hq hv HG
    generalize meanIt ss (i, j, x) = ml at *
    by_cases h0 : ml.length = 0
    · have HE : Hid (stateIt ss (i, j, x) = 2) := Lib.hid (by rw [HST.out, if_pos h0])
      have k0 : ((ml.length : Int) == 0) = true := by rw [h0]; rfl
      clear h0
      go_wp2
      go_ret
      exact ⟨_, rfl, HGG.out _ HE.out.symm, HB.out⟩
    · have k0 : ((ml.length : Int) == 0) = false := beq_eq_false_iff_ne.2 (by omega)
      by_cases h1 : 1 < ml.length
      · have HE : Hid (stateIt ss (i, j, x) = 3) := Lib.hid (by rw [HST.out, if_neg h0, if_pos h1])
        have k1 : (1 : Int) < (ml.length : Int) := by omega
        clear h0 h1
        go_wp2
        go_ret
        exact ⟨_, rfl, HGG.out _ HE.out.symm, HB.out⟩
      · have k1 : ¬ (1 : Int) < (ml.length : Int) := by omega
        have hone : ml.length = 1 := by omega
        obtain ⟨p, rfl⟩ := List.length_eq_one_iff.1 hone
        obtain ⟨c, hsc, hjx⟩ := placed_at HQ.out
        dsimp only at hsc hjx
        obtain ⟨i2, j2, c2, y, hpe, hc2, hy2⟩ := HIP.out p (List.mem_singleton.2 rfl)
        have hneg := alone_neg HV.out hpe hc2 hy2
        obtain ⟨b5, f5, rfl, hb5, q5⟩ := HA.out.at (by simp)
        obtain ⟨r0, r1⟩ := q5 0 p (by rfl)
        rw [Nat.zero_mul, Nat.add_zero] at r0 r1
        subst hpe
        dsimp only at r0 r1
        have g1 := cell_regrown (RG1.out.cell (i := 0) (by rfl))
        have p0 := cell_regrown (RP1.out.cell (i := 0) (by rfl))
        have p1 := cell_regrown (RP1.out.cell (i := 1) (by rfl))
        have e0 := cell_regrown r0
        have e1 := cell_regrown r1
        have HEND : ∀ dq osq, Below w.heap.size w (Sort.grow (redrawn w1 dq) osq) := fun dq osq => HB.out.trans ((below_regrown w1 dq osq).mono HB.out.size)
        have D1 : ∀ d os, Calls Tryz.prog 85 #[.agg #[.slice oa ss.length cap], .agg #[.int .i64 (i : Int), .int .i64 (j : Int)]] (Sort.grow (redrawn w1 d) os) fun e w'' => e = .returned (.agg #[.int .i64 x.kind, .string x.name, .int .i64 x.scope]) ∧ ∃ q : Regrown, w'' = Sort.grow (redrawn w1 q.d) q.os :=
          fun d os => Calls.regrown_of (specAt_any ss HF.out oa cap i j c x hsc hjx _ (HC.out.below (HEND d os) (Nat.le_refl _)))
        have D2 : ∀ d os, Calls Tryz.prog 85 #[.agg #[.slice oa ss.length cap], .agg #[.int .i64 (i2 : Int), .int .i64 (j2 : Int)]] (Sort.grow (redrawn w1 d) os) fun e w'' => e = .returned (.agg #[.int .i64 y.kind, .string y.name, .int .i64 y.scope]) ∧ ∃ q : Regrown, w'' = Sort.grow (redrawn w1 q.d) q.os :=
          fun d os => Calls.regrown_of (specAt_any ss HF.out oa cap i2 j2 c2 y hc2 hy2 _ (HC.out.below (HEND d os) (Nat.le_refl _)))
        have HENDH := Lib.hid HEND
        have k0' : ((([((i2 : Int), (j2 : Int))] : List (Int × Int)).length : Int) == 0) = false := by rfl
        clear HEND q5 hsc hjx hc2 hy2 h0 h1 r0 r1 hone
        by_cases hk : x.kind = 3
        · have hq3 : (x.kind == 3) = true := by simpa using hk
          by_cases ha : y.scope = -1
          · have HE : Hid (stateIt ss (i, j, x) = 4) := Lib.hid (by rw [HST.out, if_neg (by simp), if_neg (by simp), if_pos ⟨hk, by rw [hneg.1]; exact ha⟩])
            have ka : y.scope < 0 := by omega
            clear hk ha hneg
            go_wp2
            refine wp_region_quiet_below (by kernel_rfl) (by kernel_rfl) ?_
            repeat (first | go_big_quiet_step (with_reducible first | exact D1 _ _ | exact D2 _ _) | quiet_step (with_reducible first | exact D1 _ _ | exact D2 _ _))
            refine wpQuiet_nil ?_
            intro _ hw'
            obtain ⟨⟨dq, osq⟩, hw''⟩ := hw'
            subst hw''
            have HBE := Lib.hid (HENDH.out dq osq)
            go_wp2
            go_ret
            exact ⟨_, rfl, HGG.out _ HE.out.symm, HBE.out⟩
          · have HE : Hid (stateIt ss (i, j, x) = 1) := Lib.hid (by rw [HST.out, if_neg (by simp), if_neg (by simp), if_neg (fun h => ha (by rw [← hneg.1]; exact h.2))])
            have ka : ¬ y.scope < 0 := fun h => ha (hneg.2.1 h)
            clear hk ha hneg
            go_wp2
            refine wp_region_quiet_below (by kernel_rfl) (by kernel_rfl) ?_
            repeat (first | go_big_quiet_step (with_reducible first | exact D1 _ _ | exact D2 _ _) | quiet_step (with_reducible first | exact D1 _ _ | exact D2 _ _))
            refine wpQuiet_nil ?_
            intro _ hw'
            obtain ⟨⟨dq, osq⟩, hw''⟩ := hw'
            subst hw''
            have HBE := Lib.hid (HENDH.out dq osq)
            go_wp2
            go_ret
            exact ⟨_, rfl, HGG.out _ HE.out.symm, HBE.out⟩
        · have hq3 : (x.kind == 3) = false := by simpa using hk
          have HE : Hid (stateIt ss (i, j, x) = 1) := Lib.hid (by rw [HST.out, if_neg (by simp), if_neg (by simp), if_neg (fun h => hk h.1)])
          clear hk hneg D2
          go_wp2
          refine wp_region_quiet_below (by kernel_rfl) (by kernel_rfl) ?_
          repeat (first | go_big_quiet_step (exact D1 _ _) | quiet_step (exact D1 _ _))
          refine wpQuiet_nil ?_
          intro _ hw'
          obtain ⟨⟨dq, osq⟩, hw''⟩ := hw'
          subst hw''
          have HBE := Lib.hid (HENDH.out dq osq)
          go_wp2
          go_ret
          exact ⟨_, rfl, HGG.out _ HE.out.symm, HBE.out⟩
end Go.Proofs.YtgehpaojbnpbcaaGreatDoor
namespace Go.Proofs.YtgehpaojbnpbcaaGreatDoor
open Go Go.RowKit Go.Maps
/-- The places of all items. -/
def plsAll (l : List (Nat × Nat × It)) : List (Int × Int) := l.map fun q => ((q.1 : Int), (q.2.1 : Int))
theorem plsAll_snoc (l : List (Nat × Nat × It)) (q : Nat × Nat × It) : plsAll (l ++ [q]) = plsAll l ++ [((q.1 : Int), (q.2.1 : Int))] := by unfold plsAll; rw [List.map_append]; rfl
theorem plsAll_length (l : List (Nat × Nat × It)) : (plsAll l).length = l.length := by unfold plsAll; rw [List.length_map]
theorem plsAll_at {l : List (Nat × Nat × It)} {k : Nat} {q : Nat × Nat × It} (h : l[k]? = some q) : (plsAll l)[k]? = some ((q.1 : Int), (q.2.1 : Int)) := by unfold plsAll; rw [List.getElem?_map, h]; rfl
set_option maxRecDepth 100000 in
set_option maxHeartbeats 1600000 in
theorem l4Items_any (ss : List Sc) (hl : ss.length ≤ 1048576) (hm : ∀ s ∈ ss, s.items.length ≤ 1048576) (hN : (placed 0 ss).length ≤ 1048576) (oa : Option Addr) (cap : Nat) (w : World) (hc : HoldsScopes w oa ss) :
    Calls Tryz.prog 59 #[.agg #[.slice oa ss.length cap]] w (PlsGot (plsAll (placed 0 ss)) w) := by
  have hb0 := ((Below.refl w.heap.size w).alloc (Nat.le_refl _) (.cells #[.slice oa ss.length cap] 28)).alloc (by simp) (.cells #[] 59)
  have hR0 := (Row.new w [.slice oa ss.length cap] 28).alloc (.cells #[] 59)
  have hown0 : ((w.alloc (.cells #[.slice oa ss.length cap] 28)).alloc (.cells #[] 59)).ownsRow w.heap.size 59 2 (.slice (some ⟨w.heap.size + 1, 0, none⟩) 0 0) 0 [] := by
    have h0 := World.ownsRow_made (base := w.heap.size) (e := 59) (size := 2) (w.alloc (.cells #[.slice oa ss.length cap] 28)) #[] 0 (by simp) (by unfold maxLen; omega) rfl
    rw [World.size_alloc] at h0
    exact h0
  have HP0 : Hid (PlsAt w ((w.alloc (.cells #[.slice oa ss.length cap] 28)).alloc (.cells #[] 59)) oa cap ss.length (.slice (some ⟨w.heap.size + 1, 0, none⟩) 0 0) []) := Lib.hid ⟨hR0, hown0, hb0⟩
  have HC := Lib.hid hc
  have HM := Lib.hid hm
  have HN := Lib.hid hN
  have g00 := hR0.cell (i := 0) (by rfl)
  clear hc hm hb0 hR0 hown0 hN
  go_enter Tryz.func59, Tryz.ntmps59
  go_wp2
  go_loopw [3, 11] (fun v i wr => ∃ k : Nat, i = .int .i64 k ∧ k ≤ ss.length ∧ Hid (PlsAt w wr oa cap ss.length v (plsAll (uptoP ss k 0)))) (fun _ i _ => ss.length - (intOf i).toNat)
  case atStart => exact ⟨0, rfl, Nat.zero_le _, Lib.hid (by rw [uptoP_start]; exact HP0.out)⟩
  case round =>
    obtain ⟨k, rfl, hk, hP⟩ := hrel
    by_cases hlt : k < ss.length
    · obtain ⟨s, hs⟩ : ∃ s, ss[k]? = some s := ⟨_, List.getElem?_eq_getElem hlt⟩
      obtain ⟨bb, off, rfl, hbb, hcell⟩ := HC.out.at (by omega)
      obtain ⟨oi, ci, a0, a1, hci⟩ := hcell k s hs
      have hil := HM.out s (List.mem_of_getElem? hs)
      have b0 := (hP.out.below.cell (p := ⟨bb, off + k * 2, none⟩) hbb).trans a0
      have b1 := (hP.out.below.cell (p := ⟨bb, off + k * 2 + 1, none⟩) hbb).trans a1
      have HS := Lib.hid hs
      have hbx := (Below.refl wr.heap.size wr).alloc (Nat.le_refl _) (.cells #[.int .i64 s.parent, .slice oi s.items.length ci] 67)
      have HP1 := Lib.hid (hP.out.step hbx)
      have hwr := hP.out.below.size
      clear hs hcell hci a0 a1 hbx
      go_wp2
      go_loopw [3, 19] (fun v i wr => ∃ j : Nat, i = .int .i64 j ∧ j ≤ s.items.length ∧ Hid (PlsAt w wr (some ⟨bb, off, none⟩) cap ss.length v (plsAll (uptoP ss k j)))) (fun _ i _ => s.items.length - (intOf i).toNat)
      case atStart => exact ⟨0, rfl, Nat.zero_le _, HP1⟩
      case round =>
        obtain ⟨j, rfl, hj, hP2⟩ := hrel
        by_cases hlt2 : j < s.items.length
        · obtain ⟨x, hx⟩ : ∃ x, s.items[j]? = some x := ⟨_, List.getElem?_eq_getElem hlt2⟩
          have HNX := Lib.hid (uptoP_next HS.out hx)
          have hpl : (plsAll (uptoP ss k j)).length ≤ 1048576 := by rw [plsAll_length]; exact Nat.le_trans (uptoP_prefix (j := j) HS.out).length_le HN.out
          have HE : Hid (plsAll (uptoP ss k (j + 1)) = plsAll (uptoP ss k j) ++ [((k : Int), (j : Int))]) := Lib.hid (by rw [HNX.out, plsAll_snoc])
          generalize hpe : plsAll (uptoP ss k j) = pre at hpl
          have HP3 : Hid (PlsAt w _ (some ⟨bb, off, none⟩) cap ss.length _ pre) := Lib.hid (by have := hP2.out; rw [hpe] at this; exact this)
          rw [hpe] at HE
          have hrow3 := HP3.out.row
          obtain ⟨i0, hi0, hz0, hz1, hz2⟩ := info_parts infoPl
          have hbs3 := HP3.out.below.size
          clear hpe hx
          go_wp2_with (at_builtin; refine wpList_append_own _ rfl _ _ 36 rfl w.heap.size 59 i0 (.agg #[.int .i64 0, .int .i64 0]) 2 16 Tryz.underlying36 hi0 hz0 hz1 hz2 rfl (by decide) _ _ _ rfl (hrow3.alloc _) ⟨_, 0, none⟩ 1 1 [.int .i64 (k : Int), .int .i64 (j : Int)] rfl rfl ?c1 ?c2 ?c3 ?c4 ?c5 ?_)
          all_goals try (case c1 => exact cells_new2 _ _ _ _)
          all_goals try (case c2 => first | (exact ⟨rfl, rfl⟩) | (intro u hu; simp only [List.mem_cons, List.mem_nil_iff, or_false] at hu; rcases hu with rfl | rfl <;> rfl))
          all_goals try (case c3 => unfold maxLen; omega)
          all_goals try (case c4 => omega)
          all_goals try (case c5 => first | omega | (simp only [World.size_alloc]; omega) | (simp; omega))
          intro v' w' hown' hgrow _
          have HP4 : Hid (PlsAt w w' (some ⟨bb, off, none⟩) cap ss.length v' (plsAll (uptoP ss k (j + 1)))) := Lib.hid {
            box := (HP3.out.box.alloc (.cells #[.int .i64 (k : Int), .int .i64 (j : Int)] 59)).grown hgrow (ownsRow_ne2 HP3.out.box (by decide) HP3.out.row)
            row := by rw [HE.out, List.length_append, placeCells_snoc]; exact hown'
            below := HP3.out.below.trans (below_append2 HP3.out.row hgrow (Nat.le_refl w.heap.size) hbs3) }
          clear hown' hgrow hrow3
          go_wp2
          go_roundw
          case rel => exact ⟨j + 1, by go_num, by omega, HP4⟩
          case measure => simp only [intOf]; omega
        · obtain rfl : j = s.items.length := by omega
          have HP2 : Hid (PlsAt w _ (some ⟨bb, off, none⟩) cap ss.length _ (plsAll (uptoP ss (k + 1) 0))) := Lib.hid (by have := hP2.out; rw [uptoP_scope HS.out] at this; exact this)
          go_wp2
          go_roundw
          case rel => exact ⟨k + 1, by go_num, by omega, HP2⟩
          case measure => simp only [intOf]; omega
    · obtain rfl : k = ss.length := by omega
      have HE := Lib.hid (uptoP_all ss)
      go_wp2
      go_ret
      exact ⟨_, rfl, by have := hP.out.row; rw [HE.out] at this; exact this, hP.out.below⟩
/-- One place appended, and where the longer list lies. -/
theorem append_place_at {W : World} {base k : Nat} {v : Value} {xs : List Value} (hrow : W.ownsRow base 59 2 v k xs) (x y : Int) (hk : k < 1000000) (hbase : base ≤ W.heap.size) (ty : TypeId) :
    ∃ v' w', (Builtin.append_ #[36, 36] ty #[v, .slice (some ⟨W.heap.size, 0, none⟩) 1 1]).run Tryz.prog (W.alloc (.cells #[.int .i64 x, .int .i64 y] 59)) = .ok v' w' ∧ w'.ownsRow base 59 2 v' (k + 1) (xs ++ [.int .i64 x, .int .i64 y]) ∧ (W.alloc (.cells #[.int .i64 x, .int .i64 y] 59)).grownBy w' v.ownBlock ∧ (v'.ownBlock = v.ownBlock ∨ v'.ownBlock = some (W.heap.size + 1)) := by
  obtain ⟨i0, hi, hz0, hz1, hz2⟩ := info_parts infoPl
  obtain ⟨v', w', hrun, h2, h3, _, h5⟩ := run_append_own_at (P := Tryz.prog) (W.alloc (.cells #[.int .i64 x, .int .i64 y] 59)) base 36 ty 59 i0 (.agg #[.int .i64 0, .int .i64 0]) 2 16 Tryz.underlying36 hi hz0 hz1 hz2 rfl (by decide) v k xs (hrow.alloc _) ⟨W.heap.size, 0, none⟩ 1 1 [.int .i64 x, .int .i64 y] rfl (cells_new2 W _ _ _)
    (by intro u hu; simp only [List.mem_cons, List.mem_nil_iff, or_false] at hu; rcases hu with rfl | rfl <;> rfl) (by unfold maxLen; omega) (by omega) (by show base ≤ (W.alloc _).heap.size; simp; omega)
  exact ⟨v', w', hrun, h2, h3, by simpa using h5⟩
/-- At the head of a round over a list of places: the graph's box, the list in the making, the list that is gone through. -/
structure ItemsAt (w wr : World) (oa : Option Addr) (cap n b2 : Nat) (v tl : Value) (l all : List (Int × Int)) : Prop where
  box : Row wr w.heap.size 28 [.slice oa n cap]
  row : wr.ownsRow w.heap.size 59 2 v l.length (placeCells l)
  lst : wr.ownsRow b2 59 2 tl all.length (placeCells all)
  far : tl = .slice none 0 0 ∨ tl.ownBlock ≠ v.ownBlock
  below : Below w.heap.size w wr
theorem ItemsAt.step {w wr w' : World} {oa : Option Addr} {cap n b2 : Nat} {v tl : Value} {l all : List (Int × Int)} (h : ItemsAt w wr oa cap n b2 v tl l all) (hb : Below wr.heap.size wr w') : ItemsAt w w' oa cap n b2 v tl l all where
  box := h.box.below hb h.box.lt
  row := ownsRow_below h.row hb
  lst := ownsRow_below h.lst hb
  far := h.far
  below := h.below.trans (hb.mono h.below.size)
theorem ownsRow_lt {w : World} {B n size g : Nat} {e : TypeId} {u : Value} {xs : List Value} (h : w.ownsRow B e size u n xs) (hg : u.ownBlock = some g) : g < w.heap.size := (h.lt g hg).2
theorem ItemsAt.snoc {w W w' : World} {oa : Option Addr} {cap n b2 : Nat} {v v' tl : Value} {l all : List (Int × Int)} {x y : Int} (h : ItemsAt w W oa cap n b2 v tl l all)
    (hown : w'.ownsRow w.heap.size 59 2 v' (l.length + 1) (placeCells l ++ [.int .i64 x, .int .i64 y])) (hg : (W.alloc (.cells #[.int .i64 x, .int .i64 y] 59)).grownBy w' v.ownBlock) (hb : v'.ownBlock = v.ownBlock ∨ v'.ownBlock = some (W.heap.size + 1)) :
    ItemsAt w w' oa cap n b2 v' tl (l ++ [(x, y)]) all where
  box := (h.box.alloc _).grown hg (ownsRow_ne2 h.box (by decide) h.row)
  row := by rw [List.length_append, placeCells_snoc]; exact hown
  lst := (h.lst.alloc _).kept hg (h.far.imp (fun e => by rw [e]; rfl) id)
  far := by
    rcases hb with hb | hb
    · rw [hb]; exact h.far
    · rw [hb]
      rcases h.far with h1 | _
      · exact .inl h1
      · exact .inr fun e => by have := ownsRow_lt h.lst e; omega
  below := h.below.trans (below_append2 h.row hg (Nat.le_refl _) h.below.size)
theorem stVal_is {ss : List Sc} (hv : Valid ss) {i j : Nat} {x : It} (hq : (i, j, x) ∈ placed 0 ss) {z : Int} (h : StVal ss (i : Int) (j : Int) z) : z = stateIt ss (i, j, x) := h.same (.inl ⟨hv, i, j, x, rfl, rfl, hq, rfl⟩)
set_option maxRecDepth 100000 in
set_option maxHeartbeats 4000000 in
theorem specItemsIn_any (ss : List Sc) (hf : FitsScopes ss) (oa : Option Addr) (cap : Nat) (z : Int) (w : World) (hc : HoldsScopes w oa ss) :
    Calls Tryz.prog 107 #[.agg #[.slice oa ss.length cap], .int .i64 z] w (PlGot2 (stOk ss z) (stsP ss z) w) := by
  have hb0 : Below w.heap.size w ((w.alloc (.cells #[.slice oa ss.length cap] 28)).alloc (.cells #[] 59)) := ((Below.refl _ _).alloc (Nat.le_refl _) _).alloc (by simp) _
  have RG := Lib.hid ((Row.new w [.slice oa ss.length cap] 28).alloc (.cells #[] 59))
  have hown0 : ((w.alloc (.cells #[.slice oa ss.length cap] 28)).alloc (.cells #[] 59)).ownsRow w.heap.size 59 2 (.slice (some ⟨w.heap.size + 1, 0, none⟩) 0 0) 0 [] := by
    have h0 := World.ownsRow_made (base := w.heap.size) (e := 59) (size := 2) (w.alloc (.cells #[.slice oa ss.length cap] 28)) #[] 0 (by simp) (by unfold maxLen; omega) rfl
    rw [World.size_alloc] at h0
    exact h0
  have C := Lib.hid (specValid_any ss oa cap _ hf (hc.below hb0 (Nat.le_refl _)))
  have HO0 := Lib.hid hown0
  have HB0 := Lib.hid hb0
  have HC := Lib.hid hc
  have HF := Lib.hid hf
  have g0 := RG.out.cell (i := 0) (by rfl)
  clear hf hc hb0 hown0
  go_enter Tryz.func107, Tryz.ntmps107
  go_wp2_with fail
  refine C.out.mono ?_
  rintro e w1 ⟨q, rfl, hv, hb⟩
  have HB := Lib.hid (HB0.out.trans (hb.mono HB0.out.size))
  have RG1 := Lib.hid (RG.out.below hb RG.out.lt)
  have HO1 := Lib.hid (ownsRow_below HO0.out hb)
  have HS1 : Hid (w.heap.size + 1 + 1 ≤ w1.heap.size) := Lib.hid (by have := hb.size; simpa using this)
  have g1 := RG1.out.cell (i := 0) (by rfl)
  have HV := Lib.hid hv
  clear hb hv g0
  cases q
  · have HN : Hid (¬ stOk ss z) := Lib.hid (fun h => by have := HV.out.2 h.1; cases this)
    go_wp2
    go_ret2
    exact .inl ⟨HN.out, _, rfl, HB.out⟩
  · have HVV := Lib.hid (HV.out.1 rfl)
    go_wp2_with fail
    refine (l1In_any z 1 4 _).mono ?_
    rintro e w2 ⟨rfl, rfl⟩
    obtain ⟨q, hq⟩ : ∃ q, inB z 1 4 = q := ⟨_, rfl⟩
    rw [hq]
    have HQ := Lib.hid hq
    clear hq
    cases q
    · have HN : Hid (¬ stOk ss z) := Lib.hid (fun h => by have := HQ.out; rw [h.2] at this; cases this)
      go_wp2
      go_ret2
      exact .inl ⟨HN.out, _, rfl, HB.out⟩
    · have h30 := placed_bound 0 ss 6 5 HVV.out.count.2 HVV.out.five
      have C3 := Lib.hid (l4Items_any ss (by have := HVV.out.count.2; omega) (fun s hs => by have := HVV.out.five s hs; omega) (by omega) oa cap _ (HC.out.below HB.out (Nat.le_refl _)))
      go_wp2_with fail
      refine C3.out.mono ?_
      rintro e w3 ⟨tl, rfl, htl, hb3⟩
      have hfar : tl = .slice none 0 0 ∨ tl.ownBlock ≠ (Value.slice (some ⟨w.heap.size + 1, 0, none⟩) 0 0).ownBlock := by
        rcases htl.2 with h1 | ⟨g, cp, cur, rfl, hgB, _⟩
        · exact .inl h1.1
        · refine .inr fun e => ?_
          simp only [Value.ownBlock, Option.some.injEq] at e
          have := HS1.out
          omega
      have HI3 : Hid (ItemsAt w w3 oa cap ss.length w2.heap.size (.slice (some ⟨w.heap.size + 1, 0, none⟩) 0 0) tl [] (plsAll (placed 0 ss))) := Lib.hid ⟨RG1.out.below hb3 RG1.out.lt, ownsRow_below HO1.out hb3, htl, hfar, HB.out.trans (hb3.mono HB.out.size)⟩
      obtain ⟨ot, ct, rfl, hat⟩ := argPlaces_of_owns htl
      have HLN : Hid ((plsAll (placed 0 ss)).length = (placed 0 ss).length) := Lib.hid (plsAll_length _)
      have hln : (plsAll (placed 0 ss)).length ≤ 30 := by rw [plsAll_length]; exact h30
      clear hb3 htl hat g1 hfar
      go_wp2
      go_loopw [6, 22] (fun v i wr => ∃ k : Nat, i = .int .i64 k ∧ k ≤ (plsAll (placed 0 ss)).length ∧ Hid (ItemsAt w wr oa cap ss.length w2.heap.size v (.slice ot (plsAll (placed 0 ss)).length ct) (stsOf ss z ((placed 0 ss).take k)) (plsAll (placed 0 ss)))) (fun _ i _ => (plsAll (placed 0 ss)).length - (intOf i).toNat)
      case atStart => exact ⟨0, rfl, Nat.zero_le _, HI3⟩
      case round =>
        obtain ⟨k, rfl, hk, hP⟩ := hrel
        by_cases hlt : k < (plsAll (placed 0 ss)).length
        · obtain ⟨⟨i, j, x⟩, hqk⟩ : ∃ q, (placed 0 ss)[k]? = some q := ⟨_, List.getElem?_eq_getElem (by rw [HLN.out] at hlt; exact hlt)⟩
          have hqm := List.mem_of_getElem? hqk
          obtain ⟨o', c', he', hat⟩ := argPlaces_of_owns hP.out.lst
          cases he'
          obtain ⟨b5, f5, rfl, hb5, q5⟩ := hat.at (by omega)
          obtain ⟨r0, r1⟩ := q5 k ((i : Int), (j : Int)) (plsAll_at hqk)
          have hba := (Below.refl wr.heap.size wr).alloc (Nat.le_refl _) (.cells #[.int .i64 (i : Int), .int .i64 (j : Int)] 59)
          have HPA := Lib.hid (hP.out.step hba)
          have g4 := HPA.out.box.cell (i := 0) (by rfl)
          have RPB := Lib.hid (Row.new wr [.int .i64 (i : Int), .int .i64 (j : Int)] 59)
          have HST : Hid (stsOf ss z ((placed 0 ss).take (k + 1)) = stsOf ss z ((placed 0 ss).take k) ++ if stateIt ss (i, j, x) = z then [((i : Int), (j : Int))] else []) := Lib.hid (by rw [List.take_add_one, hqk]; exact stsOf_snoc ss z _ _)
          have C4 := Lib.hid (specStateOf_any ss HF.out oa cap (i : Int) (j : Int) _ (HC.out.below HPA.out.below (Nat.le_refl _)))
          have HQM := Lib.hid hqm
          have hsl : (stsOf ss z ((placed 0 ss).take k)).length < 1000000 := by
            have h1 := stsOf_length ss z ((placed 0 ss).take k)
            rw [List.length_take] at h1
            omega
          clear hba q5 hat hqk hqm
          go_wp2_with fail
          refine C4.out.mono ?_
          rintro e w5 ⟨zz, rfl, hz, hb6⟩
          have HP5 := Lib.hid (HPA.out.step hb6)
          have RP5 := Lib.hid (RPB.out.below hb6 RPB.out.lt)
          have p0 := RP5.out.cell (i := 0) (by rfl)
          have p1 := RP5.out.cell (i := 1) (by rfl)
          have HZ := Lib.hid (stVal_is HVV.out HQM.out hz)
          have HSZ := Lib.hid (Nat.le_trans HPA.out.below.size hb6.size)
          clear hb6 hz g4 r0 r1
          by_cases he : zz = z
          · have hq : (zz == z) = true := by simpa using he
            have HE : Hid (stsOf ss z ((placed 0 ss).take (k + 1)) = stsOf ss z ((placed 0 ss).take k) ++ [((i : Int), (j : Int))]) := Lib.hid (by rw [HST.out, if_pos (by rw [← HZ.out]; exact he)])
            obtain ⟨v', w7, hrun, hown', hgrow, hbl⟩ := append_place_at HP5.out.row (i : Int) (j : Int) hsl HSZ.out 36
            have HP7 : Hid (ItemsAt w w7 oa cap ss.length w2.heap.size v' _ (stsOf ss z ((placed 0 ss).take (k + 1))) (plsAll (placed 0 ss))) := Lib.hid (by rw [HE.out]; exact HP5.out.snoc hown' hgrow hbl)
            have HRUN := Lib.hid hrun
            clear hown' hgrow hbl hrun he
            go_wp2_with (at_builtin; refine wpList_append_run rfl _ _ 36 rfl HRUN.out ?_)
            go_wp2
            go_roundw
            case rel => exact ⟨k + 1, by go_num, by omega, HP7⟩
            case measure => simp only [intOf]; omega
          · have hq : (zz == z) = false := by simpa using he
            have HE : Hid (stsOf ss z ((placed 0 ss).take (k + 1)) = stsOf ss z ((placed 0 ss).take k)) := Lib.hid (by rw [HST.out, if_neg (by rw [← HZ.out]; exact he), List.append_nil])
            clear he
            go_wp2
            go_roundw
            case rel => exact ⟨k + 1, by go_num, by omega, by rw [HE.out]; exact HP5⟩
            case measure => simp only [intOf]; omega
        · obtain rfl : k = (plsAll (placed 0 ss)).length := by omega
          have HE : Hid ((placed 0 ss).take (plsAll (placed 0 ss)).length = placed 0 ss) := Lib.hid (by rw [HLN.out, List.take_length])
          go_wp2
          go_ret2
          exact .inr ⟨⟨HVV.out, HQ.out⟩, _, rfl, by have := hP.out.row; rw [HE.out] at this; exact this, hP.out.below⟩
end Go.Proofs.YtgehpaojbnpbcaaGreatDoor
