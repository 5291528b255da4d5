/-
  The walks of impl's listText at numbers and FormatNumbers: at every list of at most 2^20 numbers of 64 bits the text of the numbers; only new memory is written. Condition: the table of powers of ten is whole.
-/
import Derived.Test.YtjogfagjcpcihaaDoorWNums
import Derived.Test.YtjogfagjcpcihaaDoorWImplPlaces
namespace Go.Proofs.YtjogfagjcpcihaaDoor
open Go Go.RowKit Sg
theorem take_tx {ns : List Int} {k : Nat} {n : Int} (hn : ns[k]? = some n) : (ns.take (k + 1)).map (fun q => Value.string (tx q)) = (ns.take k).map (fun q => Value.string (tx q)) ++ [Value.string (tx n)] := by
  rw [List.take_add_one, hn]; simp
theorem map_tx (ns : List Int) : (ns.map tx).map (·.data.toList) = ns.map Lib.itoa := by simp [tx]
theorem joinN_len {ns : List Int} (hp : ∀ n ∈ ns, I64 n) : (Lib.join (ns.map Lib.itoa) [32]).length ≤ 22 * ns.length := by
  rw [← outL_all]; have := outL_len (map_itoa_len hp) (ns.map Lib.itoa).length (Nat.le_refl _); simpa using this
set_option maxRecDepth 100000 in
set_option maxHeartbeats 1600000 in
theorem listNums_any (ns : List Int) (oa : Option Addr) (cap : Nat) (w : World) (hg : TabGlobs w) (hn : ns.length ≤ 1048576) (hp : ∀ n ∈ ns, I64 n) (hc : HoldsInts w oa ns) :
    Calls Tryd.prog 75 #[.slice oa ns.length cap, .func (.func 76) #[] #[]] w fun e w' => ∃ T : ByteArray, e = .returned (.string T) ∧ T.data.toList = numsText ns ∧ Below w.heap.size w w' := by
  obtain ⟨i0, hi, hz0, hz1, hz2⟩ := info_parts info9
  by_cases he : ns = []
  · subst he
    go_enter Tryd.func75, Tryd.ntmps75
    go_wp2
    go_ret
    exact ⟨_, rfl, rfl, Below.refl _ _⟩
  have hpos : 0 < ns.length := List.length_pos_iff.2 he
  have hne : (((ns.length : Nat) : Int) == 0) = false := by rw [beq_eq_false_iff_ne]; omega
  have HT : Hid (numsText ns = Lib.join (ns.map Lib.itoa) [32]) := Lib.hid (by unfold numsText txtL; rw [if_neg (by simpa using he)])
  have HN := Lib.hid hn
  have hn2 : ns.length < 2 ^ 40 := by omega
  obtain ⟨bb, off, rfl, hbb, hcell⟩ := hc.at hpos
  have HC := Lib.hid hcell
  have HP := Lib.hid hp
  have hg0 := hg
  clear hn hc hp he hg hcell
  go_enter Tryd.func75, Tryd.ntmps75
  go_wp2_with (at_make; refine wpList_make_own _ rfl _ _ 138 rfl w.heap.size 9 i0 _ 1 Tryd.underlying138 hi hz0 hz1 .i64 .i64 _ ns.length rfl rfl rfl (by rw [hz2]; omega) (by unfold maxLen; omega) (Nat.le_refl _) ?_; intro w1 hown1 hg1)
  have hb1 : Below w.heap.size w w1 := (Below.refl _ w).grown hg1 (Nat.le_refl _) (fun k h => by cases h)
  clear hg1
  go_loopw [5, 16] (fun v i wr => ∃ k : Nat, i = .int .i64 k ∧ k ≤ ns.length ∧ wr.ownsRow w.heap.size 9 1 v k ((ns.take k).map fun q => Value.string (tx q)) ∧ Below w.heap.size w wr) (fun _ i _ => ns.length - (intOf i).toNat)
  case atStart => exact ⟨0, rfl, Nat.zero_le _, hown1, hb1⟩
  case round =>
    obtain ⟨k, rfl, hk, hown, hbr⟩ := hrel
    clear hown1 hb1
    by_cases hlt : k < ns.length
    · obtain ⟨n, hn⟩ : ∃ n, ns[k]? = some n := ⟨_, List.getElem?_eq_getElem hlt⟩
      have a0 := (hbr.cell (p := ⟨bb, off + k, none⟩) hbb).trans (HC.out k n hn)
      have i1 := HP.out n (List.mem_of_getElem? hn)
      have HPk := Lib.hid hn
      have C1 := Lib.hid (itoa_tx n i1)
      clear hn i1
      go_wp2_with fail
      refine (C1.out _ (hg0.below hbr hg0.size)).mono ?_
      rintro e w2 ⟨rfl, hb2⟩
      have hown2 := ownsRow_below hown hb2
      have hbw := hbr.trans (hb2.mono hbr.size)
      clear hown hb2 a0
      go_wp2_with (at_builtin; refine wpList_append_own _ rfl _ _ 138 rfl w.heap.size 9 i0 (.string ByteArray.empty) 1 16 Tryd.underlying138 hi hz0 hz1 hz2 rfl (by decide) _ _ _ rfl (hown2.alloc _) ⟨w2.heap.size, 0, none⟩ 1 1 [.string (tx n)] rfl rfl ?c1 ?c2 ?c3 ?c4 ?c5 ?_)
      case c1 => exact cells_new _ _ _
      case c2 => exact one_cell _
      case c3 => unfold maxLen; omega
      case c4 => have := HN.out; omega
      case c5 => have := hbw.size; simp only [World.size_alloc]; omega
      · intro v' w3 hown' hgrow _
        have R1 := Lib.hid (show w3.ownsRow w.heap.size 9 1 v' (k + 1) ((ns.take (k + 1)).map fun q => Value.string (tx q)) by rw [take_tx HPk.out, List.map_take]; exact hown')
        have R2 := Lib.hid ((hbw.alloc hbw.size _).grown hgrow (by have := hbw.size; simp; omega) (fun r hr => (hown2.lt r hr).1))
        clear hown' hgrow hown2 hbw
        go_wp2
        go_roundw
        case rel => exact ⟨k + 1, by go_num, by omega, R1.out, R2.out⟩
        case measure => simp only [intOf]; omega
    · obtain rfl : k = ns.length := by omega
      rw [List.take_length, show (ns.map fun q => Value.string (tx q)) = (ns.map tx).map Value.string from by rw [List.map_map]; rfl] at hown
      obtain ⟨g, cap2, rfl, hxl, hgB, hgs, hcp, hcells⟩ := texts_open hown hpos
      have J := Tryd.strings_Join g 0 cap2 (ns.map tx) ⟨#[32]⟩ wr hcells hgs (by rw [hxl]; omega) (by rw [hxl]; exact hcp) (by rw [map_tx]; have h1 := joinN_len HP.out; have h2 := HN.out; change (Lib.join (ns.map Lib.itoa) [32]).length ≤ _; omega)
      rw [map_tx, hxl] at J
      have HJ := Lib.hid J
      clear hown hcells hxl J
      go_wp2_with fail
      refine HJ.out.mono ?_
      rintro e w3 ⟨rfl, hb3⟩
      go_wp2
      go_ret
      exact ⟨_, rfl, by rw [HT.out], hbr.trans (hb3.mono hbr.size)⟩
set_option maxRecDepth 100000 in
theorem implNums_any (ns : List Int) (oa : Option Addr) (cap : Nat) (w : World) (hg : TabGlobs w) (hn : ns.length ≤ 1048576) (hp : ∀ n ∈ ns, I64 n) (hc : HoldsInts w oa ns) :
    Calls Tryd.prog 32 #[.slice oa ns.length cap] w fun e w' => ∃ T : ByteArray, e = .returned (.string T) ∧ T.data.toList = numsText ns ∧ Below w.heap.size w w' := by
  have C := Lib.hid (listNums_any ns oa cap w hg hn hp hc)
  clear hg hn hp hc
  go_enter Tryd.func32, Tryd.ntmps32
  go_wp2_with fail
  refine C.out.mono ?_
  rintro e w1 ⟨T, rfl, hT, hb⟩
  go_wp2
  go_ret
  exact ⟨T, rfl, hT, hb⟩
end Go.Proofs.YtjogfagjcpcihaaDoor
