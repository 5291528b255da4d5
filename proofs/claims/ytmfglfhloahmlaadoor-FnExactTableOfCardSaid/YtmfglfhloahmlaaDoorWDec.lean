/-
  The walk of spec.l13Dec: at every number it returns its decimal numeral, as Itoa does; only new memory is written.
-/
import Derived.Test.YtmfglfhloahmlaaDoorNumText
import Derived.Test.YtmfglfhloahmlaaDoorProg
import Derived.WalkKit
import Derived.Lib.Hide
import Derived.Outline
import Derived.Laws.BytesArg
import Derived.Lib.ItoaLen
namespace Go.Proofs.YtmfglfhloahmlaaDoor
open Go Go.RowKit Sg
theorem one_byte_cell (w : World) (x : Int) (i : Nat) (hi : i < 1) : (w.alloc (.cells #[.int .u8 x] 5)).cell? ⟨w.heap.size, 0 + i, none⟩ = some (.int .u8 ([x].getD i 0)) := by
  obtain rfl : i = 0 := by omega
  simp
/-- One byte made a text. -/
theorem conv_one (w : World) (x : Int) : (convert 57 9 (.slice (some ⟨w.heap.size, 0, none⟩) 1 1)).run Tryd.prog (w.alloc (.cells #[.int .u8 x] 5)) = .ok (.string (strOfNums [x])) (w.alloc (.cells #[.int .u8 x] 5)) :=
  run_convert_bytes_arg _ 57 5 Tryd.underlying57 Tryd.underlying5 w.heap.size 0 1 1 [x] rfl (one_byte_cell w x) 9 Tryd.underlying9
theorem byte_ahead (k : Nat) (out : List UInt8) : strOfNums [48 + (k : Int)] ++ (⟨out.toArray⟩ : ByteArray) = ⟨(UInt8.ofNat (48 + k) :: out).toArray⟩ := by
  apply ByteArray.ext
  apply Array.toList_inj.1
  rw [ByteArray.data_append, Array.toList_append, strOfNums_data]
  simp [show ((48 : Int) + (k : Int)).toNat = 48 + k from by omega]
theorem minus_ahead (l : List UInt8) : (⟨#[45]⟩ : ByteArray) ++ (⟨l.toArray⟩ : ByteArray) = ⟨(45 :: l).toArray⟩ := by
  apply ByteArray.ext
  apply Array.toList_inj.1
  rw [ByteArray.data_append, Array.toList_append]; simp
theorem digits_step {k : Nat} (h : ¬ k < 10) (out : List UInt8) : Lib.decDigits k ++ out = Lib.decDigits (k / 10) ++ (UInt8.ofNat (48 + k % 10) :: out) := by
  rw [Lib.decDigits, dif_neg h]; simp
theorem digits_last {k : Nat} (h : k < 10) (out : List UInt8) : Lib.decDigits k ++ out = UInt8.ofNat (48 + k) :: out := by
  rw [Lib.decDigits, dif_pos h]; rfl
set_option maxRecDepth 100000 in
set_option maxHeartbeats 1600000 in
theorem dec_nat (n : Nat) (w : World) (hn : n ≤ 2 ^ 63 - 1) :
    Calls Tryd.prog 111 #[.int .i64 (n : Int)] w fun e w' => e = .returned (.string ⟨(Lib.decDigits n).toArray⟩) ∧ Below w.heap.size w w' := by
  have h0 : (0 : Int) ≤ (n : Int) := by omega
  go_enter Tryd.func111, Tryd.ntmps111
  go_wp2
  go_loopw [0, 3] (fun v s wr => ∃ (k : Nat) (out : List UInt8), v = .int .i64 k ∧ s = .string ⟨out.toArray⟩ ∧ k ≤ n ∧ Hid (Lib.decDigits n = Lib.decDigits k ++ out) ∧ Below w.heap.size w wr) (fun v _ _ => (intOf v).toNat)
  case atStart => exact ⟨n, [], rfl, rfl, Nat.le_refl _, Lib.hid (by simp), Below.refl _ _⟩
  case round =>
    obtain ⟨k, out, rfl, rfl, hk, hd, hb⟩ := hrel
    have hol : out.length ≤ 20 := by
      have h1 := congrArg List.length hd.out
      have h2 := Lib.nDigits_le20 n (by omega)
      rw [List.length_append, Lib.decDigits_length] at h1
      omega
    by_cases hlt : (9 : Int) < (k : Int)
    · have hconv := fun x => conv_one wr x
      have hsz : (strOfNums [48 + (k : Int) % 10]).size + out.length ≤ 21 := by rw [strOfNums_size]; simp; omega
      go_wp2
      go_roundw
      case rel => exact ⟨k / 10, UInt8.ofNat (48 + k % 10) :: out, by go_num, by rw [← byte_ahead]; go_num, by omega, Lib.hid (hd.out.trans (digits_step (by omega) out)), hb.alloc hb.size _⟩
      case measure => simp only [intOf]; omega
    · have hconv := fun x => conv_one wr x
      have hsz : (strOfNums [48 + (k : Int)]).size + out.length ≤ 21 := by rw [strOfNums_size]; simp; omega
      have HF := Lib.hid (byte_ahead k out)
      go_wp2
      go_ret
      exact ⟨by rw [HF.out, ← digits_last (by omega), ← hd.out]; rfl, hb.alloc hb.size _⟩
theorem dec_len (n : Nat) (hn : n ≤ 2 ^ 63 - 1) : (Lib.decDigits n).length ≤ 20 := by
  rw [Lib.decDigits_length]; exact Lib.nDigits_le20 n (by omega)
theorem itoa_min : Lib.itoa (-9223372036854775808) = [45, 57, 50, 50, 51, 51, 55, 50, 48, 51, 54, 56, 53, 52, 55, 55, 53, 56, 48, 56] := by decide +kernel
set_option maxRecDepth 100000 in
set_option maxHeartbeats 1600000 in
theorem dec_neg (n : Nat) (w : World) (hn : n ≤ 2 ^ 63 - 1) (h1 : 1 ≤ n) :
    Calls Tryd.prog 111 #[.int .i64 (-(n : Int))] w fun e w' => e = .returned (.string ⟨(Lib.itoa (-(n : Int))).toArray⟩) ∧ Below w.heap.size w w' := by
  have h2 : -(n : Int) < 0 := by omega
  have h3 : (-9223372036854775807 : Int) ≤ -(n : Int) := by omega
  have hl := dec_len n hn
  have e : Lib.itoa (-(n : Int)) = 45 :: Lib.decDigits n := by
    unfold Lib.itoa
    rw [if_pos h2]; simp
  rw [e]
  have HE := Lib.hid (dec_nat n · hn)
  clear e
  go_enter Tryd.func111, Tryd.ntmps111
  go_wp2_with fail
  refine (HE.out _).mono ?_
  rintro e w1 ⟨rfl, hb1⟩
  have HF := Lib.hid (minus_ahead (Lib.decDigits n))
  go_wp2
  go_ret
  exact ⟨by rw [← HF.out]; rfl, hb1⟩
set_option maxRecDepth 100000 in
theorem dec_min (w : World) :
    Calls Tryd.prog 111 #[.int .i64 (-9223372036854775808)] w fun e w' => e = .returned (.string ⟨(Lib.itoa (-9223372036854775808)).toArray⟩) ∧ Below w.heap.size w w' := by
  rw [itoa_min]
  go_enter Tryd.func111, Tryd.ntmps111
  go_wp2
  go_ret
  exact ⟨rfl, Below.refl _ _⟩
/-- l13Dec is Itoa. -/
theorem dec_any (n : Int) (h0 : -9223372036854775808 ≤ n) (h1 : n ≤ 9223372036854775807) (w : World) :
    Calls Tryd.prog 111 #[.int .i64 n] w fun e w' => e = .returned (.string ⟨(Lib.itoa n).toArray⟩) ∧ Below w.heap.size w w' := by
  by_cases hp : 0 ≤ n
  · obtain ⟨k, rfl⟩ := Int.eq_ofNat_of_zero_le hp
    have e : Lib.itoa (k : Int) = Lib.decDigits k := by unfold Lib.itoa; rw [if_neg (by omega)]; simp
    rw [e]
    exact dec_nat k w (by omega)
  · by_cases hm : n = -9223372036854775808
    · subst hm; exact dec_min w
    · obtain ⟨k, hk⟩ : ∃ k : Nat, n = -(k : Int) := ⟨n.natAbs, by omega⟩
      subst hk
      exact dec_neg k w (by omega) (by omega)
end Go.Proofs.YtmfglfhloahmlaaDoor
