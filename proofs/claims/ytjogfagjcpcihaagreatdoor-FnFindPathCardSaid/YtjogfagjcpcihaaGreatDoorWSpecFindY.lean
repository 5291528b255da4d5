/-
  The walk of the given FindPath. Conditions: the argument's memory holds the graph; the text has at most 2^20 bytes.
-/
import Derived.Test.YtjogfagjcpcihaaGreatDoorWSpecItemsY
import Derived.Test.YtjogfagjcpcihaaGreatDoorWPathY
namespace Go.Proofs.YtjogfagjcpcihaaGreatDoor
open Go Go.RowKit Go.Maps
attribute [local go_sem ↓] field_kind field_name field_scope
/-- At the head of a round. -/
structure FindRd (w wr : World) (oa : Option Addr) (cap n : Nat) (v : Value) (l : List (Int × Int)) : Prop where
  box : Row wr w.heap.size 33 [.slice oa n cap]
  row : wr.ownsRow w.heap.size 26 2 v l.length (placeCells l)
  below : Below w.heap.size w wr
theorem FindRd.step {w wr w' : World} {oa : Option Addr} {cap n : Nat} {v : Value} {l : List (Int × Int)} (h : FindRd w wr oa cap n v l) (hb : Below wr.heap.size wr w') : FindRd w w' oa cap n v l :=
  ⟨h.box.below hb h.box.lt, ownsRow_below h.row hb, h.below.trans (hb.mono h.below.size)⟩
theorem ownsRow_empty {W : World} {base : Nat} (hb : base ≤ W.heap.size) : (W.alloc (.cells #[] 26)).ownsRow base 26 2 (.slice (some ⟨W.heap.size, 0, none⟩) 0 0) 0 [] :=
  World.ownsRow_made (base := base) (e := 26) (size := 2) W #[] 0 hb (by unfold maxLen; omega) rfl
set_option maxRecDepth 100000 in
set_option maxHeartbeats 8000000 in
theorem specFindPath_any (ss : List Sc) (hf : FitsScopes ss) (oa : Option Addr) (cap : Nat) (n : Int) (p : ByteArray) (hps : p.size ≤ 1048576) (w : World) (hc : HoldsScopes w oa ss) :
    Calls Tryz.prog 18 #[.agg #[.slice oa ss.length cap], .int .i64 n, .string p] w (PlGot2 (fpOk ss n p) (fpUp ss n.toNat p p.size) w) := by
  have hb0 := (Below.refl w.heap.size w).alloc (Nat.le_refl _) (.cells #[.slice oa ss.length cap] 33)
  have RG := Lib.hid (Row.new w [.slice oa ss.length cap] 33)
  have C := Lib.hid (specScope_any ss hf oa cap n _ (hc.below hb0 (Nat.le_refl _)))
  have HB0 := Lib.hid hb0
  have HC := Lib.hid hc
  have HF := Lib.hid hf
  have g0 := RG.out.cell (i := 0) (by rfl)
  clear hf hc hb0
  go_enter Tryz.func18, Tryz.ntmps18
  go_wp2_with fail
  refine C.out.mono ?_
  rintro e w1 ⟨q, rfl, hv, hb⟩
  have HB := Lib.hid (HB0.out.trans (hb.mono HB0.out.size))
  have RG1 := Lib.hid (RG.out.below hb RG.out.lt)
  have HV := Lib.hid hv
  clear hb hv g0
  cases q
  · have HN : Hid (¬ fpOk ss n p) := Lib.hid (fun h => by have := HV.out.2 h.1; cases this)
    go_wp2
    go_ret2
    exact .inl ⟨HN.out, _, rfl, HB.out.alloc HB.out.size _⟩
  · have HH := Lib.hid (HV.out.1 rfl)
    obtain ⟨s, rfl⟩ : ∃ s : Nat, n = (s : Int) := ⟨n.toNat, by have := HH.out.2.1; omega⟩
    by_cases h0 : p.size = 0
    · have hq : p.toList.isEmpty = true := by
        have : p = ⟨#[]⟩ := by
          rcases p with ⟨d⟩
          have : d = #[] := Array.eq_empty_of_size_eq_zero h0
          rw [this]
        rw [this]; simp
      have HN : Hid (¬ fpOk ss (s : Int) p) := Lib.hid (fun h => by have := h.2.1; omega)
      clear h0
      go_wp2
      go_ret2
      exact .inl ⟨HN.out, _, rfl, HB.out.alloc HB.out.size _⟩
    · have hq : p.toList.isEmpty = false := by
        cases hc : p.toList.isEmpty with
        | false => rfl
        | true =>
          exfalso
          apply h0
          rw [List.isEmpty_iff] at hc
          rw [ByteArray.toList_eq] at hc
          have := congrArg List.length hc
          simpa using this
      have hp0 : 0 < p.size := by omega
      have hs : s < ss.length := by have := HH.out.2.2; omega
      have HR1 : Hid (FindRd w (w1.alloc (.cells #[] 26)) oa cap ss.length (.slice (some ⟨w1.heap.size, 0, none⟩) 0 0) (fpUp ss s p 0)) := Lib.hid ⟨RG1.out.alloc _, ownsRow_empty HB.out.size, HB.out.alloc HB.out.size _⟩
      clear h0
      go_wp2
      go_loopw [8, 23] (fun v i wr => ∃ k : Nat, i = .int .i64 k ∧ k ≤ p.size ∧ Hid (letters p k ∧ FindRd w wr oa cap ss.length v (fpUp ss s p k))) (fun _ i _ => p.size - (intOf i).toNat)
      case atStart => exact ⟨0, rfl, Nat.zero_le _, Lib.hid ⟨fun i hi => by omega, HR1.out⟩⟩
      case round =>
        obtain ⟨k, rfl, hk, hP⟩ := hrel
        by_cases hlt : k < p.size
        · have C1 := Lib.hid (l1Name_any (p.extract k (k + 1)) wr)
          have hsl := slice_letter p k hlt wr
          have hwk : IntKind.i64.wrap ((k : Int) + 1) = (k : Int) + 1 := IntWalk.i64_in _ (by omega)
          go_wp2_with fail
          refine C1.out.mono ?_
          rintro e w2 ⟨rfl, rfl⟩
          cases hqn : nameB (p.extract k (k + 1)) with
          | false =>
            have HN : Hid (¬ fpOk ss (s : Int) p) := Lib.hid (fun h => by rw [h.2.2 k hlt] at hqn; cases hqn)
            have HBE := Lib.hid hP.out.2.below
            clear hqn
            go_wp2
            go_ret2
            exact .inl ⟨HN.out, _, rfl, HBE.out.alloc HBE.out.size _⟩
          | true =>
            have HL2 := Lib.hid (letters_snoc hP.out.1 hqn)
            have g2 := hP.out.2.box.cell (i := 0) (by rfl)
            clear hqn
            by_cases hk0 : k = 0
            · subst hk0
              have C2 := Lib.hid (specLookUp3_any ss HH.out.1 HF.out oa cap s hs (p.extract 0 1) _ (HC.out.below hP.out.2.below (Nat.le_refl _)))
              go_wp2_with fail
              refine C2.out.mono ?_
              rintro e w3 ⟨u, rfl, hu, hb3⟩
              have HR3 : Hid (FindRd w w3 oa cap ss.length u (fpUp ss s p (0 + 1))) := Lib.hid ⟨(hP.out.2.step hb3).box, ownsRow_lower hu hP.out.2.below.size, (hP.out.2.step hb3).below⟩
              clear hu hb3
              go_wp2
              go_roundw
              case rel => exact ⟨0 + 1, by go_num, by omega, Lib.hid ⟨HL2.out, HR3.out⟩⟩
              case measure => simp only [intOf]; omega
            · have hk1 : ((k : Int) == 0) = false := beq_eq_false_iff_ne.2 (by omega)
              have HST := Lib.hid (fpUp_succ ss s p (show 1 ≤ k by omega))
              have hok := fpUp_ok HH.out.1 s p k
              obtain ⟨o5, c5, rfl, hat⟩ := argPlaces_of_owns hP.out.2.row
              by_cases h1 : (fpUp ss s p k).length = 1
              · obtain ⟨q, hqe⟩ := List.length_eq_one_iff.1 h1
                obtain ⟨i2, j2, c2, y, rfl, hc2, hy2⟩ := hok.2 q (by rw [hqe]; exact List.mem_singleton.2 rfl)
                have hneg := alone_neg HH.out.1 (p := ((i2 : Int), (j2 : Int))) rfl hc2 hy2
                obtain ⟨b5, f5, rfl, hb5, q5⟩ := hat.at (by omega)
                obtain ⟨r0, r1⟩ := q5 0 ((i2 : Int), (j2 : Int)) (by rw [hqe]; rfl)
                rw [Nat.zero_mul, Nat.add_zero] at r0 r1
                have hne : (((fpUp ss s p k).length : Int) != 1) = false := by rw [h1]; rfl
                have gq := cell_regrown g2
                have e0 := cell_regrown r0
                have e1 := cell_regrown r1
                have HEND : ∀ dq osq, Below w.heap.size w (Sort.grow (redrawn w2 dq) osq) := fun dq osq => hP.out.2.below.trans ((below_regrown w2 dq osq).mono hP.out.2.below.size)
                have D2 : ∀ d os, Calls Tryz.prog 48 #[.agg #[.slice oa ss.length cap], .agg #[.int .i64 (i2 : Int), .int .i64 (j2 : Int)]] (Sort.grow (redrawn w2 d) os) fun e w'' => e = .returned (.agg #[.int .i64 y.kind, .string y.name, .int .i64 y.scope]) ∧ ∃ q : Regrown, w'' = Sort.grow (redrawn w2 q.d) q.os :=
                  fun d os => Calls.regrown_of (specAt_any ss HF.out oa cap i2 j2 c2 y hc2 hy2 _ (HC.out.below (HEND d os) (Nat.le_refl _)))
                have HAL : Hid (aloneP ss (fpUp ss s p k) = y.scope) := Lib.hid (by rw [hqe]; exact hneg.1)
                have HC2 := Lib.hid (And.intro hc2 hy2)
                have HRR := Lib.hid (And.intro r0 r1)
                rcases scope_ok HH.out.1 (placed_of hc2 hy2) with hsc | ⟨m, hsc, hm⟩
                · dsimp only at hsc
                  have HE : Hid (fpUp ss s p (k + 1) = []) := Lib.hid (by rw [HST.out]; unfold fpStep; rw [HAL.out, if_pos hsc])
                  have ka : y.scope < 0 := by omega
                  clear hok hat q5 hqe hneg hc2 hy2 HEND hsc r0 r1
                  go_wp2
                  refine wp_region_quiet_below (by kernel_rfl) (by kernel_rfl) ?_
                  repeat (first | go_big_quiet_step (with_reducible exact D2 _ _) | quiet_step (with_reducible exact D2 _ _))
                  refine wpQuiet_nil ?_
                  intro _ hw'
                  obtain ⟨⟨dq, osq⟩, hw''⟩ := hw'
                  subst hw''
                  have HQ : Hid (FindRd w (Sort.grow (redrawn w2 dq) osq) oa cap ss.length _ (fpUp ss s p k)) := Lib.hid (hP.out.2.step (below_regrown w2 dq osq))
                  generalize Sort.grow (redrawn w2 dq) osq = wq at *
                  have HR5 : Hid (FindRd w (wq.alloc (.cells #[] 26)) oa cap ss.length (.slice (some ⟨wq.heap.size, 0, none⟩) 0 0) (fpUp ss s p (k + 1))) := Lib.hid (by rw [HE.out]; exact ⟨HQ.out.box.alloc _, ownsRow_empty HQ.out.below.size, HQ.out.below.alloc HQ.out.below.size _⟩)
                  go_wp2
                  go_roundw
                  case rel => exact ⟨k + 1, by go_num, by omega, Lib.hid ⟨HL2.out, HR5.out⟩⟩
                  case measure => simp only [intOf]; omega
                · dsimp only at hsc hm
                  have HE : Hid (fpUp ss s p (k + 1) = ownP ss m (p.extract k (k + 1))) := Lib.hid (by rw [HST.out]; unfold fpStep; rw [HAL.out, if_neg (by omega), hsc, Int.toNat_natCast])
                  have ka : ¬ y.scope < 0 := by omega
                  have HM := Lib.hid (And.intro hsc hm)
                  clear hok hat q5 hqe hneg hc2 hy2 HEND hsc r0 r1
                  go_wp2
                  refine wp_region_quiet_below (by kernel_rfl) (by kernel_rfl) ?_
                  repeat (first | go_big_quiet_step (with_reducible exact D2 _ _) | quiet_step (with_reducible exact D2 _ _))
                  refine wpQuiet_nil ?_
                  intro _ hw'
                  obtain ⟨⟨dq, osq⟩, hw''⟩ := hw'
                  subst hw''
                  have HQ : Hid (FindRd w (Sort.grow (redrawn w2 dq) osq) oa cap ss.length _ (fpUp ss s p k)) := Lib.hid (hP.out.2.step (below_regrown w2 dq osq))
                  have HRQ : Hid ((Sort.grow (redrawn w2 dq) osq).cell? ⟨b5, f5, none⟩ = some (.int .i64 (i2 : Int)) ∧ (Sort.grow (redrawn w2 dq) osq).cell? ⟨b5, f5 + 1, none⟩ = some (.int .i64 (j2 : Int))) := Lib.hid ⟨cell_regrown HRR.out.1 dq osq, cell_regrown HRR.out.2 dq osq⟩
                  generalize Sort.grow (redrawn w2 dq) osq = wq at *
                  have gd := cell_drew (HQ.out.box.cell (i := 0) (by rfl))
                  have d0 := cell_drew HRQ.out.1
                  have d1 := cell_drew HRQ.out.2
                  have C5 : Hid (∀ W, Below w.heap.size w W → Calls Tryz.prog 48 #[.agg #[.slice oa ss.length cap], .agg #[.int .i64 (i2 : Int), .int .i64 (j2 : Int)]] W fun e w' => e = .returned (.agg #[.int .i64 y.kind, .string y.name, .int .i64 (m : Int)]) ∧ Below W.heap.size W w') := Lib.hid (fun W hb => by rw [← HM.out.1]; exact specAt_any ss HF.out oa cap i2 j2 c2 y HC2.out.1 HC2.out.2 W (HC.out.below hb (Nat.le_refl _)))
                  have C6 := Lib.hid (fun W (hb : Below w.heap.size w W) => specL3Own_any ss HH.out.1 oa cap m HM.out.2 (p.extract k (k + 1)) W (HC.out.below hb (Nat.le_refl _)))
                  clear gq e0 e1 D2 g2
                  go_wp2
                  go_region_held3 (fun w' => w'.cell? ⟨w.heap.size, 0, none⟩ = some (.slice oa ss.length cap) ∧ w'.cell? ⟨b5, f5, none⟩ = some (.int .i64 (i2 : Int)) ∧ w'.cell? ⟨b5, f5 + 1, none⟩ = some (.int .i64 (j2 : Int)))
                    (first | exact ⟨gd, d0, d1⟩ | exact ⟨cell_grow hb7 gd, cell_grow hb7 d0, cell_grow hb7 d1⟩ | exact ⟨cell_grow hb8 (cell_grow hb7 gd), cell_grow hb8 (cell_grow hb7 d0), cell_grow hb8 (cell_grow hb7 d1)⟩)
                    (first | (go_at_call 48; refine (C5.out _ HQ.out.below.drew).mono ?_; rintro e w7 ⟨rfl, hb7⟩) | (go_at_call 58; refine (C6.out _ (HQ.out.below.drew.trans (hb7.mono HQ.out.below.drew.size))).mono ?_; rintro e w8 ⟨u8, rfl, hu8, hb8⟩))
                  have HR8 : Hid (FindRd w w8 oa cap ss.length u8 (fpUp ss s p (k + 1))) := Lib.hid (by
                    have h := (HQ.out.step ((Below.refl _ _).drew)).step hb7
                    have h2 := h.step hb8
                    rw [HE.out]
                    exact ⟨h2.box, ownsRow_lower hu8 h.below.size, h2.below⟩)
                  clear hu8 hb7 hb8 gd d0 d1
                  go_wp2
                  go_roundw
                  case rel => exact ⟨k + 1, by go_num, by omega, Lib.hid ⟨HL2.out, HR8.out⟩⟩
                  case measure => simp only [intOf]; omega
              · have HE : Hid (fpUp ss s p (k + 1) = []) := Lib.hid (by rw [HST.out]; unfold fpStep; rw [if_pos (aloneP_not h1)])
                have hne : (((fpUp ss s p k).length : Int) != 1) = true := by simp; omega
                have gq := cell_regrown g2
                clear hok hat h1
                go_wp2
                refine wp_region_quiet_below (by kernel_rfl) (by kernel_rfl) ?_
                repeat (first | go_big_quiet_step (fail) | quiet_step (fail))
                refine wpQuiet_nil ?_
                intro _ hw'
                obtain ⟨⟨dq, osq⟩, hw''⟩ := hw'
                subst hw''
                have HQ : Hid (FindRd w (Sort.grow (redrawn w2 dq) osq) oa cap ss.length _ (fpUp ss s p k)) := Lib.hid (hP.out.2.step (below_regrown w2 dq osq))
                generalize Sort.grow (redrawn w2 dq) osq = wq at *
                have HR5 : Hid (FindRd w (wq.alloc (.cells #[] 26)) oa cap ss.length (.slice (some ⟨wq.heap.size, 0, none⟩) 0 0) (fpUp ss s p (k + 1))) := Lib.hid (by rw [HE.out]; exact ⟨HQ.out.box.alloc _, ownsRow_empty HQ.out.below.size, HQ.out.below.alloc HQ.out.below.size _⟩)
                go_wp2
                go_roundw
                case rel => exact ⟨k + 1, by go_num, by omega, Lib.hid ⟨HL2.out, HR5.out⟩⟩
                case measure => simp only [intOf]; omega
        · obtain rfl : k = p.size := by omega
          have HOK : Hid (fpOk ss (s : Int) p) := Lib.hid ⟨HH.out, hp0, hP.out.1⟩
          go_wp2
          go_ret2
          exact .inr ⟨HOK.out, _, rfl, hP.out.2.row, hP.out.2.below⟩
end Go.Proofs.YtjogfagjcpcihaaGreatDoor
