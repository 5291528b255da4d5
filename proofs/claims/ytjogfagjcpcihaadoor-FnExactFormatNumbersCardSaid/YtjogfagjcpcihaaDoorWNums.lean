/-
  The walk of spec.FormatNumbers: at every list of at most 2^20 numbers of 64 bits it returns the text of the numbers; only new memory is written.
-/
import Derived.Test.YtjogfagjcpcihaaDoorFmtInj
import Derived.Test.YtjogfagjcpcihaaDoorJA
namespace Go.Proofs.YtjogfagjcpcihaaDoor
open Go Go.RowKit Sg
def intVals (ns : List Int) : List Value := ns.map (Value.int .i64)
theorem intVals_snoc (ns : List Int) (n : Int) : intVals (ns ++ [n]) = intVals ns ++ [.int .i64 n] := by simp [intVals]
theorem map_itoa_len {ns : List Int} (hp : ∀ n ∈ ns, I64 n) : ∀ x ∈ ns.map Lib.itoa, x.length ≤ 21 := by
  intro x hx
  obtain ⟨n, hn, rfl⟩ := List.mem_map.1 hx
  exact Lib.itoa_length_le n (hp n hn).1 (hp n hn).2
theorem map_at {ns : List Int} {k : Nat} {n : Int} (h : ns[k]? = some n) : (ns.map Lib.itoa)[k]? = some (Lib.itoa n) := by rw [List.getElem?_map, h]; rfl
theorem num_next {ns : List Int} {k : Nat} {n : Int} {O : ByteArray} (h0 : 0 < k) (hO : O.data.toList = outL (ns.map Lib.itoa) k) (hn : ns[k]? = some n) :
    (O ++ (⟨#[32]⟩ : ByteArray) ++ tx n).data.toList = outL (ns.map Lib.itoa) (k + 1) := by
  rw [outL_succ h0 (map_at hn)]
  simp [ByteArray.data_append, hO, tx_data]
theorem num_first {ns : List Int} {k : Nat} {n : Int} {O : ByteArray} (h0 : k ≤ 0) (hO : O.data.toList = outL (ns.map Lib.itoa) k) (hn : ns[k]? = some n) :
    (O ++ tx n).data.toList = outL (ns.map Lib.itoa) (k + 1) := by
  obtain rfl : k = 0 := by omega
  rw [outL_one (map_at hn)]
  rw [outL_zero] at hO
  simp [ByteArray.data_append, hO, tx_data]
set_option maxRecDepth 100000 in
set_option maxHeartbeats 1600000 in
theorem specNums_any (ns : List Int) (oa : Option Addr) (cap : Nat) (w : World) (hn : ns.length ≤ 1048576) (hp : ∀ n ∈ ns, I64 n) (hc : HoldsInts w oa ns) :
    Calls Tryd.prog 33 #[.slice oa ns.length cap] w fun e w' => ∃ T : ByteArray, e = .returned (.string T) ∧ T.data.toList = numsText ns ∧ Below w.heap.size w w' := by
  have HN := Lib.hid hn
  have hn2 : ns.length < 2 ^ 40 := by omega
  have HC := Lib.hid hc
  have HP := Lib.hid hp
  have HL := Lib.hid (outL_len (map_itoa_len hp))
  have hml : (ns.map Lib.itoa).length = ns.length := List.length_map ..
  clear hn hc hp
  go_enter Tryd.func33, Tryd.ntmps33
  go_wp2
  go_loopw [3, 8] (fun s i wr => ∃ (k : Nat) (O : ByteArray), i = .int .i64 k ∧ s = .string O ∧ k ≤ ns.length ∧ Hid (O.data.toList = outL (ns.map Lib.itoa) k) ∧ Below w.heap.size w wr) (fun _ i _ => ns.length - (intOf i).toNat)
  case atStart => exact ⟨0, ⟨#[]⟩, rfl, rfl, Nat.zero_le _, Lib.hid (outL_zero _).symm, Below.refl _ _⟩
  case round =>
    obtain ⟨k, O, rfl, rfl, hk, hO, hbr⟩ := hrel
    have hOs : O.size ≤ 2 ^ 30 := by
      have h1 := HL.out k (by omega)
      have h2 := HN.out
      rw [← hO.out, Array.length_toList] at h1
      change O.size ≤ _ at h1
      omega
    by_cases hlt : k < ns.length
    · obtain ⟨n, hn⟩ : ∃ n, ns[k]? = some n := ⟨_, List.getElem?_eq_getElem hlt⟩
      obtain ⟨bb, off, rfl, hbb, hcell⟩ := HC.out.at (by omega)
      have a0 := (hbr.cell (p := ⟨bb, off + k, none⟩) hbb).trans (hcell k n hn)
      have i1 := HP.out n (List.mem_of_getElem? hn)
      have hXs' := tx_size i1
      have HPk := Lib.hid hn
      clear hn hcell
      by_cases h0 : 0 < k
      · have n1 : ¬ 9223372036854775807 < O.size + 1 := by omega
        have n2 : ¬ 9223372036854775807 < O.size + 1 + (tx n).size := by omega
        go_wp2_with fail
        refine (dec_tx n i1 _).mono ?_
        rintro e w2 ⟨rfl, hb2⟩
        have hb' := Lib.hid (hbr.trans (hb2.mono hbr.size))
        go_wp2
        go_roundw
        case rel => exact ⟨k + 1, _, by go_num, rfl, by omega, Lib.hid (num_next h0 hO.out HPk.out), hb'.out⟩
        case measure => simp only [intOf]; omega
      · have h0' : k ≤ 0 := by omega
        have n2 : ¬ 9223372036854775807 < O.size + (tx n).size := by omega
        go_wp2_with fail
        refine (dec_tx n i1 _).mono ?_
        rintro e w2 ⟨rfl, hb2⟩
        have hb' := Lib.hid (hbr.trans (hb2.mono hbr.size))
        go_wp2
        go_roundw
        case rel => exact ⟨k + 1, _, by go_num, rfl, by omega, Lib.hid (num_first h0' hO.out HPk.out), hb'.out⟩
        case measure => simp only [intOf]; omega
    · obtain rfl : k = ns.length := by omega
      by_cases he : ns = []
      · have hO2 : O = ⟨#[]⟩ := by
          apply ByteArray.ext; apply Array.toList_inj.1
          rw [hO.out, he]; rfl
        subst hO2
        have HT : Hid (([45] : List UInt8) = numsText ns) := Lib.hid (by rw [he]; rfl)
        clear he
        go_wp2
        go_ret
        exact ⟨_, rfl, HT.out, hbr⟩
      · have hOe : O.toList.isEmpty = false := by
          rw [ByteArray.toList_eq, hO.out]
          have := outL_ne (xs := ns.map Lib.itoa) (k := ns.length) (fun x hx => by obtain ⟨n, _, rfl⟩ := List.mem_map.1 hx; exact itoa_ne n) (List.length_pos_iff.2 he) (by omega)
          simpa using this
        have HT : Hid (O.data.toList = numsText ns) := Lib.hid (by
          rw [hO.out, ← hml, outL_all]; unfold numsText txtL; rw [if_neg (by simpa using he)])
        clear he
        go_wp2
        go_ret
        exact ⟨_, rfl, HT.out, hbr⟩
end Go.Proofs.YtjogfagjcpcihaaDoor
