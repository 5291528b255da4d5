/-
  The walks of impl's Place.text, listText at places and FormatPlaces: at every list of at most 2^20 places of 64-bit numbers the text of the places; only new memory is written. Condition: the table of powers of ten is whole.
-/
import Derived.Test.YtjogfagjcpcihaaGreatDoorJAX
import Derived.Test.YtjogfagjcpcihaaGreatDoorGlobsX
namespace Go.Proofs.YtjogfagjcpcihaaGreatDoor
open Go Go.RowKit Sg
theorem itoa_tx (n : Int) (h : I64 n) (w : World) (hg : TabGlobs w) :
    Calls Tryz.prog 85 #[.int .i64 n] w fun e w' => e = .returned (.string (tx n)) ∧ Below w.heap.size w w' := by
  refine (Tryz.strconv_Itoa n h.1 h.2 w hg.tab).mono ?_
  rintro e w' ⟨rfl, k, os, rfl⟩
  exact ⟨rfl, below_grow _ _ _⟩
/-- A place's text. -/
def pTx (p : Int × Int) : ByteArray := ⟨(pText p).toArray⟩
theorem pTx_eq (p : Int × Int) : tx p.1 ++ (⟨#[46]⟩ : ByteArray) ++ tx p.2 = pTx p := by
  apply ByteArray.ext; apply Array.toList_inj.1
  simp [ByteArray.data_append, tx_data, pTx, pText]
set_option maxRecDepth 100000 in
theorem placeText_any (p : Int × Int) (h1 : I64 p.1) (h2 : I64 p.2) (w : World) (hg : TabGlobs w) :
    Calls Tryz.prog 39 #[.agg #[.int .i64 p.1, .int .i64 p.2]] w fun e w' => e = .returned (.string (pTx p)) ∧ Below w.heap.size w w' := by
  have hXs' := tx_size h1
  have hYs' := tx_size h2
  have hB0 := (Below.refl _ w).alloc (Nat.le_refl _) (.cells #[.int .i64 p.1, .int .i64 p.2] 26)
  have hg0 := hg.below hB0 hg.size
  have k0 := cell_regrown (w := w.alloc (.cells #[.int .i64 p.1, .int .i64 p.2] 26)) (a := ⟨w.heap.size, 0, none⟩) (v := .int .i64 p.1) (by simp)
  have k1 := cell_regrown (w := w.alloc (.cells #[.int .i64 p.1, .int .i64 p.2] 26)) (a := ⟨w.heap.size, 1, none⟩) (v := .int .i64 p.2) (by simp)
  have cD := fun n d os (h : I64 n) => Calls.regrown_of (w := w.alloc (.cells #[.int .i64 p.1, .int .i64 p.2] 26)) (d := d) (os := os) (itoa_tx n h _ (hg0.below (below_regrown _ d os) hg0.size))
  have n1 : ¬ 9223372036854775807 < (tx p.1).size + 1 := by omega
  have n2 : ¬ 9223372036854775807 < (tx p.1).size + 1 + (tx p.2).size := by omega
  have HE := Lib.hid (pTx_eq p)
  clear hg hg0
  have HB0 := Lib.hid hB0
  clear hB0
  go_enter Tryz.func39, Tryz.ntmps39
  go_wp2
  refine wp_region_quiet_below (by kernel_rfl) (by kernel_rfl) ?_
  repeat (quiet_step (exact cD _ _ _ (by assumption)))
  refine wpQuiet_nil ?_
  intro _ hw'
  obtain ⟨⟨dq, osq⟩, hw''⟩ := hw'
  subst hw''
  clear n1 n2
  go_wp2
  go_ret
  exact ⟨by rw [← HE.out]; rfl, HB0.out.trans ((below_regrown (w.alloc (.cells #[.int .i64 p.1, .int .i64 p.2] 26)) dq osq).mono (by simp))⟩
/-- A slice of its own that holds texts, opened. -/
theorem texts_open {w : World} {B n : Nat} {v : Value} {xs : List ByteArray} (h : w.ownsRow B 9 1 v n (xs.map Value.string)) (hn : 0 < n) :
    ∃ g cap, v = .slice (some ⟨g, 0, none⟩) n cap ∧ xs.length = n ∧ B ≤ g ∧ g < w.heap.size ∧ n ≤ cap ∧ ∀ (j : Nat) x, xs[j]? = some x → w.cell? ⟨g, 0 + j, none⟩ = some (.string x) := by
  have hlt := h.lt
  have hcells := fun g hg => h.cells (g := g) hg
  obtain ⟨hl, h | ⟨g, cap, cur, hv, hg, hh, hnc, hm, hc, ht⟩⟩ := h
  · omega
  · subst hv
    refine ⟨g, cap, rfl, by simpa using hl, hg, (hlt g rfl).2, hnc, fun j x hx => ?_⟩
    have := hcells g rfl j (.string x) (by rw [List.getElem?_map, hx]; rfl)
    rw [Nat.zero_add]
    cases j <;> simpa [Addr.add] using this
theorem take_pTx {ps : List (Int × Int)} {k : Nat} {p : Int × Int} (hp : ps[k]? = some p) : (ps.take (k + 1)).map (fun q => Value.string (pTx q)) = (ps.take k).map (fun q => Value.string (pTx q)) ++ [Value.string (pTx p)] := by
  rw [List.take_add_one, hp]; simp
theorem join_len {ps : List (Int × Int)} (hp : ∀ p ∈ ps, I64 p.1 ∧ I64 p.2) : (Lib.join (ps.map pText) [32]).length ≤ 44 * ps.length := by
  rw [← outTo_all]; exact outTo_len hp ps.length (Nat.le_refl _)
theorem map_pTx (ps : List (Int × Int)) : (ps.map pTx).map (·.data.toList) = ps.map pText := by simp [pTx]
set_option maxRecDepth 100000 in
set_option maxHeartbeats 1600000 in
theorem listPlaces_any (ps : List (Int × Int)) (b off cap : Nat) (w : World) (hg : TabGlobs w) (hn : ps.length ≤ 1048576) (hp : ∀ p ∈ ps, I64 p.1 ∧ I64 p.2) (hb : b < w.heap.size) (hc : HoldsPlaces w b off ps) :
    Calls Tryz.prog 38 #[.slice (some ⟨b, off, none⟩) ps.length cap, .func (.func 39) #[] #[]] w fun e w' => ∃ T : ByteArray, e = .returned (.string T) ∧ T.data.toList = placesText ps ∧ Below w.heap.size w w' := by
  obtain ⟨i0, hi, hz0, hz1, hz2⟩ := info_parts info9
  by_cases he : ps = []
  · subst he
    go_enter Tryz.func38, Tryz.ntmps38
    go_wp2
    go_ret
    exact ⟨_, rfl, rfl, Below.refl _ _⟩
  have hpos : 0 < ps.length := List.length_pos_iff.2 he
  have hne : (((ps.length : Nat) : Int) == 0) = false := by rw [beq_eq_false_iff_ne]; omega
  have HT : Hid (placesText ps = Lib.join (ps.map pText) [32]) := Lib.hid (by unfold placesText; rw [if_neg he])
  have HN := Lib.hid hn
  have hn2 : ps.length < 2 ^ 40 := by omega
  have HC := Lib.hid hc
  have HP := Lib.hid hp
  have hg0 := hg
  clear hn hc hp he hg
  go_enter Tryz.func38, Tryz.ntmps38
  go_wp2_with (at_make; refine wpList_make_own _ rfl _ _ 70 rfl w.heap.size 9 i0 _ 1 Tryz.underlying70 hi hz0 hz1 .i64 .i64 _ ps.length rfl rfl rfl (by rw [hz2]; omega) (by unfold maxLen; omega) (Nat.le_refl _) ?_; intro w1 hown1 hg1)
  have hb1 : Below w.heap.size w w1 := (Below.refl _ w).grown hg1 (Nat.le_refl _) (fun k h => by cases h)
  clear hg1
  go_loopw [5, 16] (fun v i wr => ∃ k : Nat, i = .int .i64 k ∧ k ≤ ps.length ∧ wr.ownsRow w.heap.size 9 1 v k ((ps.take k).map fun q => Value.string (pTx q)) ∧ Below w.heap.size w wr) (fun _ i _ => ps.length - (intOf i).toNat)
  case atStart => exact ⟨0, rfl, Nat.zero_le _, hown1, hb1⟩
  case round =>
    obtain ⟨k, rfl, hk, hown, hbr⟩ := hrel
    clear hown1 hb1
    by_cases hlt : k < ps.length
    · obtain ⟨p, hp⟩ : ∃ p, ps[k]? = some p := ⟨_, List.getElem?_eq_getElem hlt⟩
      obtain ⟨a0, a1⟩ := (HC.out.below hbr hb) k p hp
      obtain ⟨i1, i2⟩ := HP.out p (List.mem_of_getElem? hp)
      have HPk := Lib.hid hp
      have C1 := Lib.hid (placeText_any p i1 i2)
      clear hp i1 i2
      go_wp2_with fail
      refine (C1.out _ (hg0.below (hbr.alloc hbr.size _) hg0.size)).mono ?_
      rintro e w2 ⟨rfl, hb2⟩
      have hown2 := ownsRow_below (hown.alloc (.cells #[.int .i64 p.1, .int .i64 p.2] 26)) hb2
      have hbw := (hbr.alloc hbr.size (.cells #[.int .i64 p.1, .int .i64 p.2] 26)).trans (hb2.mono (by have := hbr.size; simp; omega))
      clear hown hb2 a0 a1
      go_wp2_with (at_builtin; refine wpList_append_own _ rfl _ _ 70 rfl w.heap.size 9 i0 (.string ByteArray.empty) 1 16 Tryz.underlying70 hi hz0 hz1 hz2 rfl (by decide) _ _ _ rfl (hown2.alloc _) ⟨w2.heap.size, 0, none⟩ 1 1 [.string (pTx p)] rfl rfl ?c1 ?c2 ?c3 ?c4 ?c5 ?_)
      case c1 => exact cells_new _ _ _
      case c2 => exact one_cell _
      case c3 => unfold maxLen; omega
      case c4 => have := HN.out; omega
      case c5 => have := hbw.size; simp only [World.size_alloc]; omega
      · intro v' w3 hown' hgrow _
        have R1 := Lib.hid (show w3.ownsRow w.heap.size 9 1 v' (k + 1) ((ps.take (k + 1)).map fun q => Value.string (pTx q)) by rw [take_pTx HPk.out, List.map_take]; exact hown')
        have R2 := Lib.hid ((hbw.alloc hbw.size _).grown hgrow (by have := hbw.size; simp; omega) (fun r hr => (hown2.lt r hr).1))
        clear hown' hgrow hown2 hbw
        go_wp2
        go_roundw
        case rel => exact ⟨k + 1, by go_num, by omega, R1.out, R2.out⟩
        case measure => simp only [intOf]; omega
    · obtain rfl : k = ps.length := by omega
      rw [List.take_length, show (ps.map fun q => Value.string (pTx q)) = (ps.map pTx).map Value.string from by rw [List.map_map]; rfl] at hown
      obtain ⟨g, cap2, rfl, hxl, hgB, hgs, hcp, hcells⟩ := texts_open hown hpos
      have J := Tryz.strings_Join g 0 cap2 (ps.map pTx) ⟨#[32]⟩ wr hcells hgs (by rw [hxl]; omega) (by rw [hxl]; exact hcp) (by rw [map_pTx]; have h1 := join_len HP.out; have h2 := HN.out; change (Lib.join (ps.map pText) [32]).length ≤ _; omega)
      rw [map_pTx, hxl] at J
      have HJ := Lib.hid J
      clear hown hcells hxl J
      go_wp2_with fail
      refine HJ.out.mono ?_
      rintro e w3 ⟨rfl, hb3⟩
      go_wp2
      go_ret
      exact ⟨_, rfl, by rw [HT.out], hbr.trans (hb3.mono hbr.size)⟩
set_option maxRecDepth 100000 in
theorem implPlaces_any (ps : List (Int × Int)) (b off cap : Nat) (w : World) (hg : TabGlobs w) (hn : ps.length ≤ 1048576) (hp : ∀ p ∈ ps, I64 p.1 ∧ I64 p.2) (hb : b < w.heap.size) (hc : HoldsPlaces w b off ps) :
    Calls Tryz.prog 8 #[.slice (some ⟨b, off, none⟩) ps.length cap] w fun e w' => ∃ T : ByteArray, e = .returned (.string T) ∧ T.data.toList = placesText ps ∧ Below w.heap.size w w' := by
  have C := Lib.hid (listPlaces_any ps b off cap w hg hn hp hb hc)
  clear hg hn hp hb hc
  go_enter Tryz.func8, Tryz.ntmps8
  go_wp2_with fail
  refine C.out.mono ?_
  rintro e w1 ⟨T, rfl, hT, hb⟩
  go_wp2
  go_ret
  exact ⟨T, rfl, hT, hb⟩
end Go.Proofs.YtjogfagjcpcihaaGreatDoor
