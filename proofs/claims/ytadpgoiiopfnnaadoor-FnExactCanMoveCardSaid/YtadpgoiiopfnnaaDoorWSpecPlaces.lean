/-
  The walk of spec.FormatPlaces: at every list of at most 2^20 places of 64-bit numbers it returns the text of the places; only new memory is written.
-/
import Derived.Test.YtadpgoiiopfnnaaDoorNumText
import Derived.Test.YtadpgoiiopfnnaaDoorWNumCut
import Derived.Test.YtadpgoiiopfnnaaDoorWPlaces
namespace Go.Proofs.YtadpgoiiopfnnaaDoor
open Go Go.RowKit Sg
/-- A number's numeral as a text. -/
def tx (n : Int) : ByteArray := ⟨(Lib.itoa n).toArray⟩
theorem tx_data (n : Int) : (tx n).data.toList = Lib.itoa n := rfl
theorem tx_size {n : Int} (h : I64 n) : (tx n).size ≤ 21 := by
  have := Lib.itoa_length_le n h.1 h.2
  unfold tx
  simpa [ByteArray.size] using this
theorem dec_tx (n : Int) (h : I64 n) (w : World) :
    Calls Tryd.prog 180 #[.int .i64 n] w fun e w' => e = .returned (.string (tx n)) ∧ Below w.heap.size w w' := dec_any n h.1 h.2 w
theorem out_next {ps : List (Int × Int)} {k : Nat} {p : Int × Int} {O : ByteArray} (h0 : 0 < k) (hO : O.data.toList = outTo ps k) (hp : ps[k]? = some p) :
    (O ++ (⟨#[32]⟩ : ByteArray) ++ tx p.1 ++ (⟨#[46]⟩ : ByteArray) ++ tx p.2).data.toList = outTo ps (k + 1) := by
  rw [outTo_succ h0 hp]
  simp [ByteArray.data_append, hO, tx_data, pText]
theorem out_first {ps : List (Int × Int)} {p : Int × Int} {O : ByteArray} (hO : O.data.toList = outTo ps 0) (hp : ps[0]? = some p) :
    (O ++ tx p.1 ++ (⟨#[46]⟩ : ByteArray) ++ tx p.2).data.toList = outTo ps 1 := by
  rw [outTo_one hp]
  rw [outTo_zero] at hO
  simp [ByteArray.data_append, hO, tx_data, pText]
theorem out_first' {ps : List (Int × Int)} {k : Nat} {p : Int × Int} {O : ByteArray} (h0 : k ≤ 0) (hO : O.data.toList = outTo ps k) (hp : ps[k]? = some p) :
    (O ++ tx p.1 ++ (⟨#[46]⟩ : ByteArray) ++ tx p.2).data.toList = outTo ps (k + 1) := by
  obtain rfl : k = 0 := by omega
  exact out_first hO hp
end Go.Proofs.YtadpgoiiopfnnaaDoor
