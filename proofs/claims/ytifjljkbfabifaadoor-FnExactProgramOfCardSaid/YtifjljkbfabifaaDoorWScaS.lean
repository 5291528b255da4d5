/-
  The walks of the given ScopesAfter and ProgramOf. Condition: the argument's memory holds the graph. (gensas.py writes this text.)
-/
import Derived.Test.YtifjljkbfabifaaDoorWWrS
namespace Go.Proofs.YtifjljkbfabifaaDoor
open Go Go.RowKit Go.Maps
open Classical in
/-- A graph's program, and whether there is one. -/
noncomputable def progR (ss : List Sc) : ByteArray × Bool := if Valid ss then (⟨(wrP ss 0).toArray⟩, true) else (⟨#[]⟩, false)
set_option maxRecDepth 100000 in
set_option maxHeartbeats 4000000 in
theorem specProgram_any (ss : List Sc) (hf : FitsScopes ss) (oa : Option Addr) (cap : Nat) (w : World) (hc : HoldsScopes w oa ss) :
    Calls Tryd.prog 28 #[.agg #[.slice oa ss.length cap]] w fun e w' => e = .returned (.tuple #[.string (progR ss).1, .bool (progR ss).2]) ∧ Below w.heap.size w w' := by
  have hb0 := (Below.refl w.heap.size w).alloc (Nat.le_refl _) (.cells #[.slice oa ss.length cap] 30)
  have R := Lib.hid (Row.new w [.slice oa ss.length cap] 30)
  have g1 := R.out.cell (i := 0) (v := .slice oa ss.length cap) (by rfl)
  have C := Lib.hid (specValid_any ss oa cap _ hf (hc.below hb0 (Nat.le_refl _)))
  have HB := Lib.hid hb0
  have HC := Lib.hid hc
  have HF := Lib.hid hf
  clear hb0 hc hf
  go_enter Tryd.func28, Tryd.ntmps28
  go_wp2_with fail
  refine C.out.mono ?_
  rintro e w1 ⟨b, rfl, hb, hb1⟩
  have HB1 := Lib.hid (HB.out.trans (hb1.mono HB.out.size))
  have HBV := Lib.hid hb
  have RG := Lib.hid (R.out.below hb1 R.out.lt)
  have g2 := RG.out.cell (i := 0) (v := .slice oa ss.length cap) (by rfl)
  clear g1 hb hb1
  cases b
  · have HR : Hid (progR ss = (⟨#[]⟩, false)) := Lib.hid (by unfold progR; rw [if_neg fun h => by have := HBV.out.2 h; cases this])
    go_wp2
    go_ret2
    exact ⟨by rw [HR.out]; rfl, HB1.out⟩
  · have hv := HBV.out.1 rfl
    have HR : Hid (progR ss = (⟨(wrP ss 0).toArray⟩, true)) := Lib.hid (by unfold progR; rw [if_pos hv])
    have CW := Lib.hid (l11Write_any ss hv HF.out oa cap ss.length 0 (by omega) hv.count.1 w1 (HC.out.below HB1.out (Nat.le_refl _)))
    clear hv
    go_wp2_with fail
    refine CW.out.mono ?_
    rintro e w2 ⟨T, v, rfl, ht, -, hb2⟩
    have HT : Hid (T = ⟨(wrP ss 0).toArray⟩) := Lib.hid (ByteArray.ext (Array.ext' (by rw [ht])))
    have HB2 := Lib.hid (HB1.out.trans (hb2.mono HB1.out.size))
    clear ht hb2 g2
    go_wp2
    go_ret2
    exact ⟨by rw [HR.out, HT.out]; rfl, HB2.out⟩
theorem replicate_made (n : Nat) : (madeCells (Value.int .i64 0).cells (n * 1)).toList = numVals (List.replicate n 0) := by
  have hc : (Value.int .i64 0).cells = #[.int .i64 0] := rfl
  unfold numVals madeCells
  rw [hc]
  simp [Nat.mod_one]
  refine List.ext_getElem (by simp) fun i h1 h2 => ?_
  simp
set_option maxRecDepth 100000 in
set_option maxHeartbeats 8000000 in
theorem specAfter_any (ss : List Sc) (hf : FitsScopes ss) (oa : Option Addr) (cap : Nat) (w : World) (hc : HoldsScopes w oa ss) :
    Calls Tryd.prog 32 #[.agg #[.slice oa ss.length cap]] w (ListGot2 (Valid ss) (afterL ss) w) := by
  have hb0 := (Below.refl w.heap.size w).alloc (Nat.le_refl _) (.cells #[.slice oa ss.length cap] 30)
  have R := Lib.hid (Row.new w [.slice oa ss.length cap] 30)
  have g1 := R.out.cell (i := 0) (v := .slice oa ss.length cap) (by rfl)
  have C := Lib.hid (specValid_any ss oa cap _ hf (hc.below hb0 (Nat.le_refl _)))
  have HB := Lib.hid hb0
  have HC := Lib.hid hc
  have HF := Lib.hid hf
  clear hb0 hc hf
  go_enter Tryd.func32, Tryd.ntmps32
  go_wp2_with fail
  refine C.out.mono ?_
  rintro e w1 ⟨b, rfl, hb, hb1⟩
  have HB1 := Lib.hid (HB.out.trans (hb1.mono HB.out.size))
  have HBV := Lib.hid hb
  have RG := Lib.hid (R.out.below hb1 R.out.lt)
  have g2 := RG.out.cell (i := 0) (v := .slice oa ss.length cap) (by rfl)
  clear g1 hb hb1
  cases b
  · have HN : Hid (¬ Valid ss) := Lib.hid (fun h => by have := HBV.out.2 h; cases this)
    have HBA := Lib.hid (HB1.out.trans (((Below.refl w1.heap.size w1).alloc (Nat.le_refl _) (.cells #[] 3)).mono HB1.out.size))
    go_wp2
    go_ret2
    exact .inl ⟨HN.out, _, rfl, HBA.out⟩
  · have hv := HBV.out.1 rfl
    have HV := Lib.hid hv
    have CW := Lib.hid (l11Write_any ss hv HF.out oa cap ss.length 0 (by omega) hv.count.1 w1 (HC.out.below HB1.out (Nat.le_refl _)))
    obtain ⟨os, hos⟩ : ∃ os, orP ss 0 = os := ⟨_, rfl⟩
    have hol : os.length = ss.length := by rw [← hos]; exact (or_zero hv).2
    have HOL := Lib.hid hol
    have HLT : Hid (∀ k ∈ os, k < ss.length) := Lib.hid (fun k hk => by rw [← hos] at hk; exact or_lt hv hv.count.1 k hk)
    have HAF : Hid (afterL ss = numU (List.replicate ss.length 0) 0 os) := Lib.hid (by unfold afterL; rw [hos])
    have h6 : os.length ≤ 6 := by have := hv.count.2; omega
    have h1 : 1 ≤ os.length := by have := hv.count.1; omega
    have h6s := hv.count.2
    clear hv hol
    go_wp2_with fail
    refine CW.out.mono ?_
    rintro e w2 ⟨T, v, rfl, -, hrow, hb2⟩
    rw [hos] at hrow
    obtain ⟨oo, co, rfl, hlo⟩ := listAt_of_owns hrow
    obtain ⟨x0, hx0⟩ : ∃ x, os[0]? = some x := ⟨_, List.getElem?_eq_getElem (by omega)⟩
    obtain ⟨go, rfl, hgo, -⟩ := hlo 0 x0 hx0
    have HLO : Hid (∀ i k : Nat, os[i]? = some k → w2.cell? ⟨go, i, none⟩ = some (.int .i64 (k : Int))) := Lib.hid (fun i k hk => by
      obtain ⟨g, e1, -, e3⟩ := hlo i k hk
      cases e1
      exact e3)
    have HB2 := Lib.hid (HB1.out.trans (hb2.mono HB1.out.size))
    have HGO : Hid (go < w2.heap.size) := Lib.hid (World.block_lt_of_cell? _ _ (HLO.out 0 x0 hx0))
    obtain ⟨i0, hi0, hz0, hz1, hz2⟩ := info_parts infoInt
    clear hrow hlo hx0 hb2 g2 hos
    go_wp2_with (at_make; refine wpList_make_full _ rfl _ _ 39 rfl w2.heap.size 3 i0 _ 1 Tryd.underlying39 hi0 hz0 hz1 .i64 .i64 _ _ os.length rfl rfl rfl rfl (by rw [hz2]; omega) (by unfold maxLen; omega) (Nat.le_refl _) ?_; intro w3 hown hg1)
    have hb3 : Below w2.heap.size w2 w3 := ⟨hg1.os, hg1.tape, hg1.output, hg1.size, fun k hk => hg1.block k hk (by simp)⟩
    have HR3 : Hid (Row w3 w2.heap.size 3 (numVals (numU (List.replicate os.length 0) 0 (os.take 0)))) := Lib.hid (by
      have h1 := Row.of_owns hown rfl
      rw [replicate_made] at h1
      exact h1)
    have HB3 := Lib.hid hb3
    clear hown hg1 hb3
    try go_wp2
    have HGB : Hid (w.heap.size ≤ w2.heap.size) := Lib.hid HB2.out.size
    have HBF : Hid (∀ W, Below w2.heap.size w2 W → Below w.heap.size w W) := Lib.hid (fun W h => HB2.out.trans (h.mono HB2.out.size))
    generalize w2.heap.size = G at *
    go_loopw [23] (fun i wr => ∃ k : Nat, i = .int .i64 k ∧ k ≤ os.length ∧ Hid (Row wr G 3 (numVals (numU (List.replicate os.length 0) 0 (os.take k))) ∧ Below G w2 wr)) (fun i _ => os.length - (intOf i).toNat)
    case atStart => exact ⟨0, rfl, Nat.zero_le _, Lib.hid ⟨HR3.out, HB3.out⟩⟩
    case round =>
      obtain ⟨k, rfl, hk, HP⟩ := hrel
      by_cases hlt : k < os.length
      · obtain ⟨x, hx⟩ : ∃ x, os[k]? = some x := ⟨_, List.getElem?_eq_getElem hlt⟩
        have a0 := (HP.out.2.cell (p := ⟨go, k, none⟩) HGO.out).trans (HLO.out k x hx)
        have hxl : x < os.length := by rw [HOL.out]; exact HLT.out x (List.mem_of_getElem? hx)
        obtain ⟨y, hy⟩ : ∃ y, (numU (List.replicate os.length 0) 0 (os.take k))[x]? = some y := ⟨_, List.getElem?_eq_getElem (by rw [numU_length, List.length_replicate]; exact hxl)⟩
        have c0 := HP.out.1.cell (i := x) (v := .int .i64 (y : Int)) (by unfold numVals; rw [List.getElem?_map, hy]; rfl)
        have cf := HP.out.1.frozen x
        have HNX : Hid (Row (wr.setCell ⟨G, x, none⟩ (.int .i64 (k : Int))) G 3 (numVals (numU (List.replicate os.length 0) 0 (os.take (k + 1)))) ∧ Below G w2 (wr.setCell ⟨G, x, none⟩ (.int .i64 (k : Int)))) := Lib.hid ⟨by
          have e : numU (List.replicate os.length 0) 0 (os.take (k + 1)) = (numU (List.replicate os.length 0) 0 (os.take k)).set x k := by
            rw [List.take_add_one, hx, Option.toList_some, numU_append, List.length_take, Nat.min_eq_left hk, Nat.zero_add]
            rfl
          rw [e]
          unfold numVals
          rw [List.map_set]
          exact HP.out.1.set x _, HP.out.2.setCell (p := ⟨G, x, none⟩) (Nat.le_refl _) _⟩
        have x0' : (0 : Int) ≤ (x : Int) := by omega
        have x1' : (x : Int) < ((os.length : Nat) : Int) := by omega
        clear hx hy
        go_wp2
        go_roundw
        case rel => exact ⟨k + 1, by go_num, by omega, HNX⟩
        case measure => simp only [intOf]; omega
      · obtain rfl : k = os.length := by omega
        have hr := HP.out.1
        rw [List.take_length] at hr
        have HFR := Lib.hid (owns_of_row (B := w.heap.size) hr HGB.out (by rw [numU_length, List.length_replicate]; omega))
        clear hr
        go_wp2
        go_ret2
        refine .inr ⟨HV.out, _, rfl, ?_, HBF.out _ HP.out.2⟩
        have h := HFR.out
        rw [numU_length, List.length_replicate] at h
        rw [HAF.out, numU_length, List.length_replicate, ← HOL.out]
        exact h
end Go.Proofs.YtifjljkbfabifaaDoor
