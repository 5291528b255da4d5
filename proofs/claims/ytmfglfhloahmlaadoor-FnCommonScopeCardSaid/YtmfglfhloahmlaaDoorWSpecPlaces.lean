/-
  The walk of spec.FormatPlaces: at every list of at most 2^20 places of 64-bit numbers it returns the text of the places; only new memory is written.
-/
import Derived.Test.YtmfglfhloahmlaaDoorNumText
import Derived.Test.YtmfglfhloahmlaaDoorWNumCut
import Derived.Test.YtmfglfhloahmlaaDoorWPlaces
namespace Go.Proofs.YtmfglfhloahmlaaDoor
open Go Go.RowKit Sg
/-- A number's numeral as a text. -/
def tx (n : Int) : ByteArray := ⟨(Lib.itoa n).toArray⟩
theorem tx_data (n : Int) : (tx n).data.toList = Lib.itoa n := rfl
theorem tx_size {n : Int} (h : I64 n) : (tx n).size ≤ 21 := by
  have := Lib.itoa_length_le n h.1 h.2
  unfold tx
  simpa [ByteArray.size] using this
theorem dec_tx (n : Int) (h : I64 n) (w : World) :
    Calls Tryd.prog 111 #[.int .i64 n] w fun e w' => e = .returned (.string (tx n)) ∧ Below w.heap.size w w' := dec_any n h.1 h.2 w
theorem out_next {ps : List (Int × Int)} {k : Nat} {p : Int × Int} {O : ByteArray} (h0 : 0 < k) (hO : O.data.toList = outTo ps k) (hp : ps[k]? = some p) :
    (O ++ (⟨#[32]⟩ : ByteArray) ++ tx p.1 ++ (⟨#[46]⟩ : ByteArray) ++ tx p.2).data.toList = outTo ps (k + 1) := by
  rw [outTo_succ h0 hp]
  simp [ByteArray.data_append, hO, tx_data, pText]
theorem out_first {ps : List (Int × Int)} {p : Int × Int} {O : ByteArray} (hO : O.data.toList = outTo ps 0) (hp : ps[0]? = some p) :
    (O ++ tx p.1 ++ (⟨#[46]⟩ : ByteArray) ++ tx p.2).data.toList = outTo ps 1 := by
  rw [outTo_one hp]
  rw [outTo_zero] at hO
  simp [ByteArray.data_append, hO, tx_data, pText]
theorem out_first' {ps : List (Int × Int)} {k : Nat} {p : Int × Int} {O : ByteArray} (h0 : k ≤ 0) (hO : O.data.toList = outTo ps k) (hp : ps[k]? = some p) :
    (O ++ tx p.1 ++ (⟨#[46]⟩ : ByteArray) ++ tx p.2).data.toList = outTo ps (k + 1) := by
  obtain rfl : k = 0 := by omega
  exact out_first hO hp
set_option maxRecDepth 100000 in
set_option maxHeartbeats 1600000 in
theorem specPlaces_any (ps : List (Int × Int)) (b off cap : Nat) (w : World) (hn : ps.length ≤ 1048576) (hp : ∀ p ∈ ps, I64 p.1 ∧ I64 p.2) (hb : b < w.heap.size) (hc : HoldsPlaces w b off ps) :
    Calls Tryd.prog 71 #[.slice (some ⟨b, off, none⟩) ps.length cap] w fun e w' => ∃ T : ByteArray, e = .returned (.string T) ∧ T.data.toList = placesText ps ∧ Below w.heap.size w w' := by
  have HN := Lib.hid hn
  have hn2 : ps.length < 2 ^ 40 := by omega
  have HC := Lib.hid hc
  have HP := Lib.hid hp
  clear hn hc hp
  go_enter Tryd.func71, Tryd.ntmps71
  go_wp2
  go_loopw [3, 8] (fun s i wr => ∃ (k : Nat) (O : ByteArray), i = .int .i64 k ∧ s = .string O ∧ k ≤ ps.length ∧ Hid (O.data.toList = outTo ps k) ∧ Below w.heap.size w wr) (fun _ i _ => ps.length - (intOf i).toNat)
  case atStart => exact ⟨0, ⟨#[]⟩, rfl, rfl, Nat.zero_le _, Lib.hid (outTo_zero ps).symm, Below.refl _ _⟩
  case round =>
    obtain ⟨k, O, rfl, rfl, hk, hO, hbr⟩ := hrel
    have hOs : O.size ≤ 2 ^ 30 := by
      have h1 := outTo_len HP.out k hk
      have h2 := HN.out
      rw [← hO.out, Array.length_toList] at h1
      change O.size ≤ _ at h1
      omega
    by_cases hlt : k < ps.length
    · obtain ⟨p, hp⟩ : ∃ p, ps[k]? = some p := ⟨_, List.getElem?_eq_getElem hlt⟩
      obtain ⟨a0, a1⟩ := (HC.out.below hbr hb) k p hp
      obtain ⟨i1, i2⟩ := HP.out p (List.mem_of_getElem? hp)
      have hXs' := tx_size i1
      have hYs' := tx_size i2
      have HPk := Lib.hid hp
      clear hp
      by_cases h0 : 0 < k
      · go_upto_region 7 with (fail)
        have k0 := cell_regrown (w := wr.alloc (.cells #[.int .i64 p.1, .int .i64 p.2] 54)) (a := ⟨wr.heap.size, 0, none⟩) (v := .int .i64 p.1) (by simp)
        have k1 := cell_regrown (w := wr.alloc (.cells #[.int .i64 p.1, .int .i64 p.2] 54)) (a := ⟨wr.heap.size, 1, none⟩) (v := .int .i64 p.2) (by simp)
        have cD := fun n d os (h : I64 n) => Calls.regrown_of (w := wr.alloc (.cells #[.int .i64 p.1, .int .i64 p.2] 54)) (d := d) (os := os) (dec_tx n h _)
        clear a0 a1
        have n1 : ¬ 9223372036854775807 < O.size + 1 + (tx p.1).size := by omega
        have n2 : ¬ 9223372036854775807 < O.size + 1 + (tx p.1).size + 1 := by omega
        have n3 : ¬ 9223372036854775807 < O.size + 1 + (tx p.1).size + 1 + (tx p.2).size := by omega
        refine wp_region_quiet_below (by kernel_rfl) (by kernel_rfl) ?_
        repeat (quiet_step (exact cD _ _ _ (by assumption)))
        refine wpQuiet_nil ?_
        intro _ hw'
        obtain ⟨⟨dq, osq⟩, hw''⟩ := hw'
        subst hw''
        have hb' := Lib.hid ((hbr.alloc hbr.size _).trans ((below_regrown (wr.alloc (.cells #[.int .i64 p.1, .int .i64 p.2] 54)) dq osq).mono (by have := hbr.size; simp; omega)))
        clear n1 n2 n3
        go_wp2
        go_roundw
        case rel => exact ⟨k + 1, _, by go_num, rfl, by omega, Lib.hid (out_next h0 hO.out HPk.out), hb'.out⟩
        case measure => simp only [intOf]; omega
      · have h0' : k ≤ 0 := by omega
        go_upto_region 7 with (fail)
        have k0 := cell_regrown (w := wr.alloc (.cells #[.int .i64 p.1, .int .i64 p.2] 54)) (a := ⟨wr.heap.size, 0, none⟩) (v := .int .i64 p.1) (by simp)
        have k1 := cell_regrown (w := wr.alloc (.cells #[.int .i64 p.1, .int .i64 p.2] 54)) (a := ⟨wr.heap.size, 1, none⟩) (v := .int .i64 p.2) (by simp)
        have cD := fun n d os (h : I64 n) => Calls.regrown_of (w := wr.alloc (.cells #[.int .i64 p.1, .int .i64 p.2] 54)) (d := d) (os := os) (dec_tx n h _)
        clear a0 a1
        have n1 : ¬ 9223372036854775807 < O.size + (tx p.1).size := by omega
        have n2 : ¬ 9223372036854775807 < O.size + (tx p.1).size + 1 := by omega
        have n3 : ¬ 9223372036854775807 < O.size + (tx p.1).size + 1 + (tx p.2).size := by omega
        refine wp_region_quiet_below (by kernel_rfl) (by kernel_rfl) ?_
        repeat (quiet_step (exact cD _ _ _ (by assumption)))
        refine wpQuiet_nil ?_
        intro _ hw'
        obtain ⟨⟨dq, osq⟩, hw''⟩ := hw'
        subst hw''
        have hb' := Lib.hid ((hbr.alloc hbr.size _).trans ((below_regrown (wr.alloc (.cells #[.int .i64 p.1, .int .i64 p.2] 54)) dq osq).mono (by have := hbr.size; simp; omega)))
        clear n1 n2 n3
        go_wp2
        go_roundw
        case rel => exact ⟨k + 1, _, by go_num, rfl, by omega, Lib.hid (out_first' h0' hO.out HPk.out), hb'.out⟩
        case measure => simp only [intOf]; omega
    · obtain rfl : k = ps.length := by omega
      by_cases he : ps = []
      · have hO2 : O = ⟨#[]⟩ := by
          apply ByteArray.ext; apply Array.toList_inj.1
          rw [hO.out, he]; rfl
        subst hO2
        have HT : Hid (([45] : List UInt8) = placesText ps) := Lib.hid (by unfold placesText; rw [if_pos he])
        clear he
        go_wp2
        go_ret
        exact ⟨_, rfl, HT.out, hbr⟩
      · have hOe : O.toList.isEmpty = false := by
          rw [ByteArray.toList_eq, hO.out]
          have := outTo_ne (ps := ps) (k := ps.length) (List.length_pos_iff.2 he) (Nat.le_refl _)
          simpa using this
        have HT : Hid (O.data.toList = placesText ps) := Lib.hid (by rw [hO.out, outTo_all]; unfold placesText; rw [if_neg he])
        clear he
        go_wp2
        go_ret
        exact ⟨_, rfl, HT.out, hbr⟩
end Go.Proofs.YtmfglfhloahmlaaDoor
