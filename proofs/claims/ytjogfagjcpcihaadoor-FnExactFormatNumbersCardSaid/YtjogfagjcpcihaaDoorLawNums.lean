/-
  The walk of the law FnExactFormatNumbers: at every list of numbers it returns true, and only new memory is written. Condition: the table of powers of ten is whole. With it: a list of numbers that comes in as an argument, opened to its cells.
-/
import Derived.Test.YtjogfagjcpcihaaDoorWNumsI
import Derived.OpenShut
namespace Go.Proofs.YtjogfagjcpcihaaDoor
open Go Go.RowKit Sg Go.WideShapes Go.ChangeShapes
theorem cells3N : Tryd.prog.cellsOf 3 = 1 := by kernel_rfl
theorem open_nums {H : Type} {enc : TypeId × Value → H} {W : World} {oa : Option Addr} {len cap : Nat} {d : DataW H} {p : List MemPlace} (h : DataW.Trod enc Tryd.prog W 0 (fun _ => true) true 28 (.slice oa len cap) d p) :
    ∃ ns : List Int, len = ns.length ∧ (∀ n ∈ ns, I64 n) ∧ ns.length ≤ 2 ^ 63 - 1 ∧ HoldsInts W oa ns := by
  obtain ⟨fuel, hf⟩ := h
  rcases open_ints Tryd.underlying28 Tryd.underlying3 cells3N hf with ⟨hcs, hx⟩ | ⟨a, len', cap', zs, hcs, _, hl, hm, hz, hx, hcell, hwz⟩
  · simp [Value.cells] at hcs
    obtain ⟨rfl, rfl, rfl⟩ := hcs
    exact ⟨[], rfl, by simp, by simp, .inl rfl⟩
  · simp [Value.cells] at hcs
    obtain ⟨rfl, rfl, rfl⟩ := hcs
    simp only [if_true] at hz
    have hlen : (zs.take len).length = len := by rw [List.length_take]; omega
    refine ⟨zs.take len, hlen.symm, fun n hn => I64_of_wf (hwz n (List.mem_of_mem_take hn)), by rw [hlen]; unfold maxLen at hm; omega, ?_⟩
    by_cases h0 : len = 0
    · left; subst h0; simp
    · obtain ⟨ab, ao, spot⟩ := a
      have hspot : spot = none := by simpa [Addr.add] using World.cell?_spot (hcell 0 (by omega))
      subst hspot
      have c0 := hcell 0 (by omega)
      refine .inr ⟨ab, ao, rfl, ?_, fun j x hj => ?_⟩
      · rw [Addr.add_lit] at c0
        exact World.block_lt_of_cell? _ _ c0
      · have hjl : j < len := by have := (List.getElem?_eq_some_iff.1 hj).1; omega
        have hcj := hcell j (by omega)
        rw [Addr.add_lit] at hcj
        rw [List.getElem?_take_of_lt hjl] at hj
        rw [hcj, List.getD_eq_getElem?_getD, hj]
        rfl
theorem num_step {vs : List Value} {ns : List Int} {k : Nat} {n : Int} (hl : vs.length = ns.length) (ht : vs.take k = intVals (ns.take k)) (hn : ns[k]? = some n) :
    (vs.set k (.int .i64 n)).take (k + 1) = intVals (ns.take (k + 1)) := by
  have hk := (List.getElem?_eq_some_iff.1 hn).1
  have e1 : ns.take (k + 1) = ns.take k ++ [n] := by rw [List.take_add_one, hn]; rfl
  rw [e1, intVals_snoc, ← ht, List.take_add_one, List.take_set_of_le (Nat.le_refl _), List.getElem?_set_self (by omega)]
  rfl
set_option maxRecDepth 100000 in
set_option maxHeartbeats 1600000 in
theorem toIntS_any (ns : List Int) (oa : Option Addr) (cap : Nat) (w : World) (hn : ns.length ≤ 1048576) (hc : HoldsInts w oa ns) :
    Calls Tryd.prog 34 #[.slice oa ns.length cap] w fun e w' => ∃ g, e = .returned (.slice (some ⟨g, 0, none⟩) ns.length ns.length) ∧ w.heap.size ≤ g ∧ HoldsInts w' (some ⟨g, 0, none⟩) ns ∧ Below w.heap.size w w' := by
  obtain ⟨i0, hi, hz0, hz1, hz2⟩ := info_parts infoInt
  have HN := Lib.hid hn
  have hn2 : ns.length < 2 ^ 40 := by omega
  have HC := Lib.hid hc
  clear hn hc
  go_enter Tryd.func34, Tryd.ntmps34
  go_wp2_with (at_make; refine wpList_make_full _ rfl  _ _ 28 rfl w.heap.size 3 i0 _ 1 Tryd.underlying28 hi hz0 hz1 .i64 .i64 _ _ ns.length rfl rfl rfl rfl (by rw [hz2]; omega) (by unfold maxLen; omega) (Nat.le_refl _) ?_; intro w1 hown hg1)
  obtain ⟨zs, hzs⟩ : ∃ zs, (madeCells (Value.int .i64 0).cells (ns.length * 1)).toList = zs := ⟨_, rfl⟩
  rw [hzs] at hown
  have hzl : zs.length = ns.length := by have := hown.1; omega
  have hrow := Row.of_owns hown rfl
  have hb1 : Below w.heap.size w w1 := (Below.refl _ w).grown hg1 (Nat.le_refl _) (fun k h => by cases h)
  clear hown hg1 hzs
  go_loopw [4] (fun i wr => ∃ (k : Nat) (vs : List Value), i = .int .i64 k ∧ k ≤ ns.length ∧ vs.length = ns.length ∧ Hid (vs.take k = intVals (ns.take k)) ∧ Row wr w.heap.size 3 vs ∧ Below w.heap.size w wr) (fun i _ => ns.length - (intOf i).toNat)
  case atStart => exact ⟨0, zs, rfl, Nat.zero_le _, hzl, Lib.hid rfl, hrow, hb1⟩
  case round =>
    obtain ⟨k, vs, rfl, hk, hvl, hvt, hr, hbr⟩ := hrel
    have HVL := Lib.hid hvl
    clear hvl hrow hb1 hzl
    by_cases hlt : k < ns.length
    · obtain ⟨n, hn⟩ : ∃ n, ns[k]? = some n := ⟨_, List.getElem?_eq_getElem hlt⟩
      obtain ⟨bb, off, rfl, hbb, hcell⟩ := HC.out.at (by omega)
      have a0 := (hbr.cell (p := ⟨bb, off + k, none⟩) hbb).trans (hcell k n hn)
      obtain ⟨x0, hx0⟩ : ∃ x, vs[k]? = some x := ⟨_, List.getElem?_eq_getElem (by have := HVL.out; omega)⟩
      have q0 := hr.cell hx0
      have f0 := hr.frozen k
      have HF := Lib.hid (hr.set k (.int .i64 n))
      have HB := Lib.hid (hbr.setCell (p := ⟨w.heap.size, k, none⟩) (Nat.le_refl _) (.int .i64 n))
      have HT := Lib.hid (num_step HVL.out hvt.out hn)
      clear hx0 hr hbr hn hcell
      go_wp2
      go_roundw
      case rel => exact ⟨k + 1, _, by go_num, by omega, by rw [List.length_set]; exact HVL.out, HT, HF.out, HB.out⟩
      case measure => simp only [intOf]; omega
    · obtain rfl : k = ns.length := by omega
      have e : vs = intVals ns := by
        have h1 := hvt.out
        rw [List.take_length, List.take_of_length_le (by rw [HVL.out]; omega)] at h1
        exact h1
      subst e
      have HI : Hid (HoldsInts wr (some ⟨w.heap.size, 0, none⟩) ns) := Lib.hid (.inr ⟨_, 0, rfl, hr.lt, fun i x hx => by
        rw [Nat.zero_add]
        exact hr.cell (by unfold intVals; rw [List.getElem?_map, hx]; rfl)⟩)
      go_wp2
      go_ret
      exact ⟨_, rfl, Nat.le_refl _, HI.out, hbr⟩
theorem bytes_sameN {a b : ByteArray} (h : a.data.toList = b.data.toList) : a = b := by
  apply ByteArray.ext; exact Array.toList_inj.1 h
set_option maxRecDepth 100000 in
set_option maxHeartbeats 1600000 in
theorem lawNums (ns : List Int) (oa : Option Addr) (cap : Nat) (w : World) (hl : ns.length ≤ 2 ^ 63 - 1) (hg : TabGlobs w) (hp : ∀ n ∈ ns, I64 n) (h : HoldsInts w oa ns) :
    Calls Tryd.prog 6 #[.slice oa ns.length cap] w fun e w' => e = .returned (.bool true) ∧ Below w.heap.size w w' := by
  by_cases hn : ns.length ≤ 1048576
  · have HN := Lib.hid hn
    have HP := Lib.hid hp
    have HA := Lib.hid h
    have hn2 : ns.length < 2 ^ 40 := by omega
    have hnn : ¬ ((1048576 : Int) < (ns.length : Int)) := by omega
    clear hn hp h hl
    go_enter Tryd.func6, Tryd.ntmps6
    go_wp2_with fail
    refine (toIntS_any ns oa cap _ HN.out HA.out).mono ?_
    rintro e w1 ⟨g1, rfl, hg1, hr1, hb1⟩
    go_wp2_with fail
    refine (specNums_any ns _ _ _ HN.out HP.out hr1).mono ?_
    rintro e w2 ⟨T1, rfl, hT1, hb2⟩
    have hB2 := hb1.trans (hb2.mono hb1.size)
    go_wp2_with fail
    refine (toIntS_any ns oa cap _ HN.out (HA.out.below hB2)).mono ?_
    rintro e w3 ⟨g3, rfl, hg3, hr3, hb3⟩
    have hB3 := hB2.trans (hb3.mono hB2.size)
    go_wp2_with fail
    refine (implNums_any ns _ _ _ (hg.below hB3 hg.size) HN.out HP.out hr3).mono ?_
    rintro e w4 ⟨T2, rfl, hT2, hb4⟩
    obtain rfl : T2 = T1 := bytes_sameN (hT2.trans hT1.symm)
    have hB4 := hB3.trans (hb4.mono hB3.size)
    have hr4 := hr3.below hb4
    clear hT1 hT2
    go_wp2_with fail
    refine (toIntS_any ns oa cap _ HN.out (HA.out.below hB4)).mono ?_
    rintro e w5 ⟨g5, rfl, hg5, hr5, hb5⟩
    have hB5 := hB4.trans (hb5.mono hB4.size)
    have hr45 := hr4.below hb5
    go_wp2_with fail
    refine (eqIntS_same ns _ _ _ _ _ hn2 hr45 hr5).mono ?_
    rintro e w6 ⟨rfl, hb6⟩
    have hB6 := hB5.trans (hb6.mono hB5.size)
    go_wp2
    go_ret
    exact ⟨rfl, hB6⟩
  · have hnn : (1048576 : Int) < (ns.length : Int) := by omega
    clear hn hp h hl
    go_enter Tryd.func6, Tryd.ntmps6
    go_wp2
    go_ret
    exact ⟨rfl, Below.refl _ _⟩
end Go.Proofs.YtjogfagjcpcihaaDoor
