/-
  The walks of the given l4Resolve, ResolveItem and StateOf. Condition: the argument's memory holds the graph. The walks of the given l4Items, ItemsIn and IsSound. Conditions: the argument's memory holds the graph; it has at most 2^20 items.
-/
import Derived.Test.YtjogfagjcpcihaaGreatDoorJEY
import Derived.Test.YtjogfagjcpcihaaGreatDoorJDY
import Derived.Test.YtjogfagjcpcihaaGreatDoorWImplItemsY
namespace Go.Proofs.YtjogfagjcpcihaaGreatDoor
open Go Go.RowKit Go.Maps
attribute [local go_sem ↓] field_kind field_name field_scope
set_option maxRecDepth 100000 in
set_option maxHeartbeats 4000000 in
theorem specResolve_any (ss : List Sc) (hv : Valid ss) (hf : FitsScopes ss) (oa : Option Addr) (cap : Nat) {i j : Nat} {x : It} (hq : (i, j, x) ∈ placed 0 ss) (w : World) (hc : HoldsScopes w oa ss) :
    Calls Tryz.prog 65 #[.agg #[.slice oa ss.length cap], .agg #[.int .i64 (i : Int), .int .i64 (j : Int)]] w (PlsGot (meanIt ss (i, j, x)) w) := by
  have hb0 : Below w.heap.size w ((w.alloc (.cells #[.slice oa ss.length cap] 33)).alloc (.cells #[.int .i64 (i : Int), .int .i64 (j : Int)] 26)) := ((Below.refl _ _).alloc (Nat.le_refl _) _).alloc (by simp) _
  have RG := Lib.hid ((Row.new w [.slice oa ss.length cap] 33).alloc (.cells #[.int .i64 (i : Int), .int .i64 (j : Int)] 26))
  have RP : Hid (Row ((w.alloc (.cells #[.slice oa ss.length cap] 33)).alloc (.cells #[.int .i64 (i : Int), .int .i64 (j : Int)] 26)) (w.heap.size + 1) 26 [.int .i64 (i : Int), .int .i64 (j : Int)]) := Lib.hid (by
    have := Row.new (w.alloc (.cells #[.slice oa ss.length cap] 33)) [.int .i64 (i : Int), .int .i64 (j : Int)] 26
    rw [World.size_alloc] at this
    exact this)
  obtain ⟨c, hsc, hx⟩ := placed_at hq
  dsimp only at hsc hx
  have C := Lib.hid (specAt_any ss hf oa cap i j c x hsc hx _ (hc.below hb0 (Nat.le_refl _)))
  have HSL := Lib.hid (List.getElem?_eq_some_iff.1 hsc).1
  have HB0 := Lib.hid hb0
  have HC := Lib.hid hc
  have HF := Lib.hid hf
  have HV := Lib.hid hv
  have HK : Hid (meanIt ss (i, j, x) = if x.kind = 2 then (lookP ss i x.name).places else if x.kind = 3 then meantP ss i x.name else [((i : Int), (j : Int))]) := Lib.hid rfl
  clear hf hc hb0 hv hq hsc hx
  unfold itV at C
  go_enter Tryz.func65, Tryz.ntmps65
  go_wp2_with fail
  refine C.out.mono ?_
  rintro e w1 ⟨rfl, hb1⟩
  have hbx := hb1.trans ((Below.refl w1.heap.size w1).alloc (Nat.le_refl _) (.cells #[.int .i64 x.kind, .string x.name, .int .i64 x.scope] 37) |>.mono hb1.size)
  have HB2 := Lib.hid (HB0.out.trans (hbx.mono HB0.out.size))
  have g2 := (RG.out.below hbx RG.out.lt).cell (i := 0) (v := .slice oa ss.length cap) (by rfl)
  have p2 := (RP.out.below hbx RP.out.lt).cell (i := 0) (v := .int .i64 (i : Int)) (by rfl)
  have p3 := (RP.out.below hbx RP.out.lt).cell (i := 1) (v := .int .i64 (j : Int)) (by rfl)
  clear hb1 hbx
  by_cases hk2 : x.kind = 2
  · have hq2 : (x.kind == 2) = true := by simpa using hk2
    have HE : Hid (meanIt ss (i, j, x) = (lookP ss i x.name).places) := Lib.hid (by rw [HK.out, if_pos hk2])
    have C2 := Lib.hid (specLookUp3_any ss HV.out HF.out oa cap i HSL.out x.name _ (HC.out.below HB2.out (Nat.le_refl _)))
    clear hk2
    go_wp2_with fail
    refine C2.out.mono ?_
    rintro e w3 ⟨u, rfl, hu, hb3⟩
    have HB3 := Lib.hid (HB2.out.trans (hb3.mono HB2.out.size))
    have HU := Lib.hid (ownsRow_lower hu HB2.out.size)
    clear hb3 hu
    go_wp2
    go_ret
    exact ⟨_, rfl, by rw [HE.out]; exact HU.out, HB3.out⟩
  · have hq2 : (x.kind == 2) = false := by simpa using hk2
    by_cases hk3 : x.kind = 3
    · have hq3 : (x.kind == 3) = true := by simpa using hk3
      have HE : Hid (meanIt ss (i, j, x) = meantP ss i x.name) := Lib.hid (by rw [HK.out, if_neg hk2, if_pos hk3])
      have C2 := Lib.hid (specMeant_any ss HV.out HF.out oa cap i HSL.out x.name _ (HC.out.below HB2.out (Nat.le_refl _)))
      clear hk2 hk3
      go_wp2_with fail
      refine C2.out.mono ?_
      rintro e w3 ⟨u, rfl, hu, hb3⟩
      have HB3 := Lib.hid (HB2.out.trans (hb3.mono HB2.out.size))
      have HU := Lib.hid (ownsRow_lower hu HB2.out.size)
      clear hb3 hu
      go_wp2
      go_ret
      exact ⟨_, rfl, by rw [HE.out]; exact HU.out, HB3.out⟩
    · have hq3 : (x.kind == 3) = false := by simpa using hk3
      have HE : Hid (meanIt ss (i, j, x) = [((i : Int), (j : Int))]) := Lib.hid (by rw [HK.out, if_neg hk2, if_neg hk3])
      have hO := ownsRow_one (W := w1.alloc (.cells #[.int .i64 x.kind, .string x.name, .int .i64 x.scope] 37)) HB2.out.size (i : Int) (j : Int)
      rw [World.size_alloc] at hO
      have HO := Lib.hid hO
      clear hk2 hk3 hO
      go_wp2
      go_ret
      exact ⟨_, rfl, by rw [HE.out]; exact HO.out, HB2.out.alloc HB2.out.size _⟩
theorem alone_neg {ss : List Sc} (hv : Valid ss) {p : Int × Int} {i j : Nat} {c : Sc} {y : It} (hp : p = ((i : Int), (j : Int))) (hc : ss[i]? = some c) (hy : c.items[j]? = some y) : aloneP ss [p] = y.scope ∧ (y.scope < 0 ↔ y.scope = -1) := by
  subst hp
  refine ⟨scopeAt_of hc hy, ?_⟩
  rcases scope_ok hv (placed_of hc hy) with h | ⟨m, h, _⟩ <;> dsimp only at h <;> omega
end Go.Proofs.YtjogfagjcpcihaaGreatDoor
namespace Go.Proofs.YtjogfagjcpcihaaGreatDoor
open Go Go.RowKit Go.Maps
/-- The places of all items. -/
def plsAll (l : List (Nat × Nat × It)) : List (Int × Int) := l.map fun q => ((q.1 : Int), (q.2.1 : Int))
theorem plsAll_snoc (l : List (Nat × Nat × It)) (q : Nat × Nat × It) : plsAll (l ++ [q]) = plsAll l ++ [((q.1 : Int), (q.2.1 : Int))] := by unfold plsAll; rw [List.map_append]; rfl
theorem plsAll_length (l : List (Nat × Nat × It)) : (plsAll l).length = l.length := by unfold plsAll; rw [List.length_map]
theorem plsAll_at {l : List (Nat × Nat × It)} {k : Nat} {q : Nat × Nat × It} (h : l[k]? = some q) : (plsAll l)[k]? = some ((q.1 : Int), (q.2.1 : Int)) := by unfold plsAll; rw [List.getElem?_map, h]; rfl
set_option maxRecDepth 100000 in
set_option maxHeartbeats 1600000 in
theorem l4Items_any (ss : List Sc) (hl : ss.length ≤ 1048576) (hm : ∀ s ∈ ss, s.items.length ≤ 1048576) (hN : (placed 0 ss).length ≤ 1048576) (oa : Option Addr) (cap : Nat) (w : World) (hc : HoldsScopes w oa ss) :
    Calls Tryz.prog 64 #[.agg #[.slice oa ss.length cap]] w (PlsGot (plsAll (placed 0 ss)) w) := by
  have hb0 := ((Below.refl w.heap.size w).alloc (Nat.le_refl _) (.cells #[.slice oa ss.length cap] 33)).alloc (by simp) (.cells #[] 26)
  have hR0 := (Row.new w [.slice oa ss.length cap] 33).alloc (.cells #[] 26)
  have hown0 : ((w.alloc (.cells #[.slice oa ss.length cap] 33)).alloc (.cells #[] 26)).ownsRow w.heap.size 26 2 (.slice (some ⟨w.heap.size + 1, 0, none⟩) 0 0) 0 [] := by
    have h0 := World.ownsRow_made (base := w.heap.size) (e := 26) (size := 2) (w.alloc (.cells #[.slice oa ss.length cap] 33)) #[] 0 (by simp) (by unfold maxLen; omega) rfl
    rw [World.size_alloc] at h0
    exact h0
  have HP0 : Hid (PlsAt w ((w.alloc (.cells #[.slice oa ss.length cap] 33)).alloc (.cells #[] 26)) oa cap ss.length (.slice (some ⟨w.heap.size + 1, 0, none⟩) 0 0) []) := Lib.hid ⟨hR0, hown0, hb0⟩
  have HC := Lib.hid hc
  have HM := Lib.hid hm
  have HN := Lib.hid hN
  have g00 := hR0.cell (i := 0) (by rfl)
  clear hc hm hb0 hR0 hown0 hN
  go_enter Tryz.func64, Tryz.ntmps64
  go_wp2
  go_loopw [3, 11] (fun v i wr => ∃ k : Nat, i = .int .i64 k ∧ k ≤ ss.length ∧ Hid (PlsAt w wr oa cap ss.length v (plsAll (uptoP ss k 0)))) (fun _ i _ => ss.length - (intOf i).toNat)
  case atStart => exact ⟨0, rfl, Nat.zero_le _, Lib.hid (by rw [uptoP_start]; exact HP0.out)⟩
  case round =>
    obtain ⟨k, rfl, hk, hP⟩ := hrel
    by_cases hlt : k < ss.length
    · obtain ⟨s, hs⟩ : ∃ s, ss[k]? = some s := ⟨_, List.getElem?_eq_getElem hlt⟩
      obtain ⟨bb, off, rfl, hbb, hcell⟩ := HC.out.at (by omega)
      obtain ⟨oi, ci, a0, a1, hci⟩ := hcell k s hs
      have hil := HM.out s (List.mem_of_getElem? hs)
      have b0 := (hP.out.below.cell (p := ⟨bb, off + k * 2, none⟩) hbb).trans a0
      have b1 := (hP.out.below.cell (p := ⟨bb, off + k * 2 + 1, none⟩) hbb).trans a1
      have HS := Lib.hid hs
      have hbx := (Below.refl wr.heap.size wr).alloc (Nat.le_refl _) (.cells #[.int .i64 s.parent, .slice oi s.items.length ci] 156)
      have HP1 := Lib.hid (hP.out.step hbx)
      have hwr := hP.out.below.size
      clear hs hcell hci a0 a1 hbx
      go_wp2
      go_loopw [3, 19] (fun v i wr => ∃ j : Nat, i = .int .i64 j ∧ j ≤ s.items.length ∧ Hid (PlsAt w wr (some ⟨bb, off, none⟩) cap ss.length v (plsAll (uptoP ss k j)))) (fun _ i _ => s.items.length - (intOf i).toNat)
      case atStart => exact ⟨0, rfl, Nat.zero_le _, HP1⟩
      case round =>
        obtain ⟨j, rfl, hj, hP2⟩ := hrel
        by_cases hlt2 : j < s.items.length
        · obtain ⟨x, hx⟩ : ∃ x, s.items[j]? = some x := ⟨_, List.getElem?_eq_getElem hlt2⟩
          have HNX := Lib.hid (uptoP_next HS.out hx)
          have hpl : (plsAll (uptoP ss k j)).length ≤ 1048576 := by rw [plsAll_length]; exact Nat.le_trans (uptoP_prefix (j := j) HS.out).length_le HN.out
          have HE : Hid (plsAll (uptoP ss k (j + 1)) = plsAll (uptoP ss k j) ++ [((k : Int), (j : Int))]) := Lib.hid (by rw [HNX.out, plsAll_snoc])
          generalize hpe : plsAll (uptoP ss k j) = pre at hpl
          have HP3 : Hid (PlsAt w _ (some ⟨bb, off, none⟩) cap ss.length _ pre) := Lib.hid (by have := hP2.out; rw [hpe] at this; exact this)
          rw [hpe] at HE
          have hrow3 := HP3.out.row
          obtain ⟨i0, hi0, hz0, hz1, hz2⟩ := info_parts infoPl
          have hbs3 := HP3.out.below.size
          clear hpe hx
          go_wp2_with (at_builtin; refine wpList_append_own _ rfl _ _ 23 rfl w.heap.size 26 i0 (.agg #[.int .i64 0, .int .i64 0]) 2 16 Tryz.underlying23 hi0 hz0 hz1 hz2 rfl (by decide) _ _ _ rfl (hrow3.alloc _) ⟨_, 0, none⟩ 1 1 [.int .i64 (k : Int), .int .i64 (j : Int)] rfl rfl ?c1 ?c2 ?c3 ?c4 ?c5 ?_)
          all_goals try (case c1 => exact cells_new2 _ _ _ _)
          all_goals try (case c2 => first | (exact ⟨rfl, rfl⟩) | (intro u hu; simp only [List.mem_cons, List.mem_nil_iff, or_false] at hu; rcases hu with rfl | rfl <;> rfl))
          all_goals try (case c3 => unfold maxLen; omega)
          all_goals try (case c4 => omega)
          all_goals try (case c5 => first | omega | (simp only [World.size_alloc]; omega) | (simp; omega))
          intro v' w' hown' hgrow _
          have HP4 : Hid (PlsAt w w' (some ⟨bb, off, none⟩) cap ss.length v' (plsAll (uptoP ss k (j + 1)))) := Lib.hid {
            box := (HP3.out.box.alloc (.cells #[.int .i64 (k : Int), .int .i64 (j : Int)] 26)).grown hgrow (ownsRow_ne2 HP3.out.box (by decide) HP3.out.row)
            row := by rw [HE.out, List.length_append, placeCells_snoc]; exact hown'
            below := HP3.out.below.trans (below_append2 HP3.out.row hgrow (Nat.le_refl w.heap.size) hbs3) }
          clear hown' hgrow hrow3
          go_wp2
          go_roundw
          case rel => exact ⟨j + 1, by go_num, by omega, HP4⟩
          case measure => simp only [intOf]; omega
        · obtain rfl : j = s.items.length := by omega
          have HP2 : Hid (PlsAt w _ (some ⟨bb, off, none⟩) cap ss.length _ (plsAll (uptoP ss (k + 1) 0))) := Lib.hid (by have := hP2.out; rw [uptoP_scope HS.out] at this; exact this)
          go_wp2
          go_roundw
          case rel => exact ⟨k + 1, by go_num, by omega, HP2⟩
          case measure => simp only [intOf]; omega
    · obtain rfl : k = ss.length := by omega
      have HE := Lib.hid (uptoP_all ss)
      go_wp2
      go_ret
      exact ⟨_, rfl, by have := hP.out.row; rw [HE.out] at this; exact this, hP.out.below⟩
end Go.Proofs.YtjogfagjcpcihaaGreatDoor
