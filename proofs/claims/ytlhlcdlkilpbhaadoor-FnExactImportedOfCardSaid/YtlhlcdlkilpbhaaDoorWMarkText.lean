/-
  The walk of the laws' markText: a short text comes back, and only new memory is written. Plain facts.
-/
import Derived.Test.YtlhlcdlkilpbhaaDoorWMarks
import Derived.Laws.BytesArg
import Derived.Lib.ItoaLen
namespace Go.Proofs.YtlhlcdlkilpbhaaDoor
open Go Go.RowKit
theorem byte_cell (w : World) (x : Int) (i : Nat) (hi : i < 1) : (w.alloc (.cells #[.int .u8 x] 5)).cell? ⟨w.heap.size, 0 + i, none⟩ = some (.int .u8 ([x].getD i 0)) := by
  obtain rfl : i = 0 := by omega
  simp
theorem conv_byte (w : World) (x : Int) : (convert 156 9 (.slice (some ⟨w.heap.size, 0, none⟩) 1 1)).run Tryd.prog (w.alloc (.cells #[.int .u8 x] 5)) = .ok (.string (strOfNums [x])) (w.alloc (.cells #[.int .u8 x] 5)) :=
  run_convert_bytes_arg _ 156 5 Tryd.underlying156 Tryd.underlying5 w.heap.size 0 1 1 [x] rfl (byte_cell w x) 9 Tryd.underlying9
theorem pow_small {d k K : Nat} (hk : 1 ≤ k) (h : k * 10 ^ d ≤ K) (hK : K ≤ 1099511627776) : d ≤ 12 := by
  rcases Nat.lt_or_ge 12 d with hd | hd
  · have h1 : 10 ^ 13 ≤ 10 ^ d := Nat.pow_le_pow_right (by omega) hd
    have h2 : 1 * 10 ^ d ≤ k * 10 ^ d := Nat.mul_le_mul_right _ hk
    omega
  · exact hd
theorem pow_step {d k K : Nat} (h : k * 10 ^ d ≤ K) : k / 10 * 10 ^ (d + 1) ≤ K := by
  have h1 : k / 10 * 10 ≤ k := Nat.div_mul_le_self k 10
  have h2 : k / 10 * 10 ^ (d + 1) = k / 10 * 10 * 10 ^ d := by rw [Nat.pow_succ, Nat.mul_comm (10 ^ d) 10, ← Nat.mul_assoc]
  rw [h2]
  exact Nat.le_trans (Nat.mul_le_mul_right _ h1) h
set_option maxRecDepth 100000 in
set_option maxHeartbeats 1600000 in
theorem markText_any (n : Nat) (w : World) (h1 : 1 ≤ n) (hn : n ≤ 1099511627776) :
    Calls Tryd.prog 107 #[.int .i64 (n : Int)] w fun e w' => ∃ s : ByteArray, e = .returned (.string s) ∧ s.size ≤ 40 ∧ Below w.heap.size w w' := by
  have k0 : decide (((n : Nat) : Int) ≤ 0) = false := by simp; omega
  go_enter Tryd.func107, Tryd.ntmps107
  go_wp2
  go_loopw [0, 3] (fun v s wr => ∃ (k : Nat) (out : ByteArray), v = .int .i64 k ∧ s = .string out ∧ k ≤ n ∧ out.size ≤ 13 ∧ Hid (k * 10 ^ out.size ≤ n) ∧ Below w.heap.size w wr) (fun v _ _ => (intOf v).toNat)
  case atStart => exact ⟨n, ByteArray.empty, rfl, rfl, Nat.le_refl _, by simp, Lib.hid (by simp), Below.refl _ _⟩
  case round =>
    obtain ⟨k, out, rfl, rfl, hk, hsz, hd, hb⟩ := hrel
    by_cases hlt : (0 : Int) < (k : Int)
    · have hconv := fun x => conv_byte wr x
      have h12 : out.size ≤ 12 := pow_small (by omega) hd.out hn
      have hs1 : (strOfNums [48 + (k : Int) % 10]).size = 1 := by rw [strOfNums_size]; rfl
      have hsum : (strOfNums [48 + (k : Int) % 10]).size + out.size ≤ 21 := by omega
      have HS : Hid ((strOfNums [48 + (k : Int) % 10] ++ out).size = out.size + 1) := Lib.hid (by rw [ByteArray.size_append, hs1]; omega)
      clear hs1
      go_wp2
      go_roundw
      case rel => exact ⟨k / 10, _, by go_num, rfl, by omega, by rw [HS.out]; omega, Lib.hid (by rw [HS.out]; exact pow_step hd.out), hb.alloc hb.size _⟩
      case measure => simp only [intOf]; omega
    · have hc : (ByteArray.mk #[109]).size + out.size ≤ 40 := by show 1 + out.size ≤ 40; omega
      have HS : Hid ((ByteArray.mk #[109] ++ out).size ≤ 40) := Lib.hid (by rw [ByteArray.size_append]; exact hc)
      go_wp2
      go_ret
      exact ⟨_, rfl, HS.out, hb⟩
end Go.Proofs.YtlhlcdlkilpbhaaDoor
