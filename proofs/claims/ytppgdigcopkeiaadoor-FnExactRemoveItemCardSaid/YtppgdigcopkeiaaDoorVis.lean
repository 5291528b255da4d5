/-
  What is visible from a scope, as plain data: the letters for which so many declarations are found, and what is hidden where a declaration stands. Plain facts.
-/
import Derived.Test.YtppgdigcopkeiaaDoorLookP
import Derived.Laws.RangeString
import Derived.Laws.Runes
namespace Go.Proofs.YtppgdigcopkeiaaDoor
open Go Go.RowKit
/-- All letters in order; the k-th one as a text. -/
def lettersB : ByteArray := ⟨#[97, 98, 99, 100, 101, 102, 103, 104, 105, 106, 107, 108, 109, 110, 111, 112, 113, 114, 115, 116, 117, 118, 119, 120, 121, 122]⟩
def letterB (k : Nat) : ByteArray := ⟨#[UInt8.ofNat (97 + k)]⟩
theorem letters_size : lettersB.size = 26 := rfl
theorem letterB_size (k : Nat) : (letterB k).size = 1 := rfl
theorem below26 {p : Nat → Prop} (h : ∀ k : Fin 26, p k.1) {k : Nat} (hk : k < 26) : p k := h ⟨k, hk⟩
theorem letters_cut {k : Nat} (hk : k < 26) : lettersB.extract k (k + 1) = letterB k :=
  below26 (p := fun k => lettersB.extract k (k + 1) = letterB k) (by decide +kernel) hk
theorem letters_at {k : Nat} (hk : k < 26) : ∃ h : k < lettersB.size, (lettersB[k]'h).toNat = 97 + k := by
  refine ⟨hk, ?_⟩
  have h : ∀ k : Fin 26, (lettersB.get! k.1).toNat = 97 + k.1 := by decide +kernel
  have h1 := h ⟨k, hk⟩
  rw [← h1]
  have e : lettersB[k]'hk = lettersB.get! k := by
    show _ = lettersB.data[k]!
    rw [getElem!_pos lettersB.data k hk]
    rfl
  rw [e]
theorem encode_letter {k : Nat} (hk : k < 26) : Utf8.encode ((97 + k : Nat) : Int) = letterB k :=
  below26 (p := fun k => Utf8.encode ((97 + k : Nat) : Int) = letterB k) (by decide +kernel) hk
theorem nameB_letter {k : Nat} (hk : k < 26) : nameB (letterB k) = true :=
  below26 (p := fun k => nameB (letterB k) = true) (by decide +kernel) hk
/-- How many declarations are found for the k-th letter. -/
def hits (ss : List Sc) (s k : Nat) : Nat := (lookP ss s (letterB k)).places.length
theorem hits_le {ss : List Sc} (hv : Valid ss) (s k : Nat) : hits ss s k ≤ 25 := lookF_length hv _ _
/-- Those of the first k letters whose number of declarations fits. -/
def pickP (ss : List Sc) (s : Nat) (f : Nat → Bool) : Nat → ByteArray
  | 0 => ⟨#[]⟩
  | k + 1 => if f (hits ss s k) = true then pickP ss s f k ++ letterB k else pickP ss s f k
theorem pickP_yes {ss : List Sc} {s k : Nat} {f : Nat → Bool} (h : f (hits ss s k) = true) : pickP ss s f (k + 1) = pickP ss s f k ++ letterB k := by
  show (if _ then _ else _) = _
  rw [if_pos h]
theorem pickP_no {ss : List Sc} {s k : Nat} {f : Nat → Bool} (h : f (hits ss s k) = false) : pickP ss s f (k + 1) = pickP ss s f k := by
  show (if _ then _ else _) = _
  rw [if_neg (by rw [h]; decide)]
theorem pickP_size (ss : List Sc) (s : Nat) (f : Nat → Bool) : ∀ k : Nat, (pickP ss s f k).size ≤ k
  | 0 => Nat.le_refl _
  | k + 1 => by
    have ih := pickP_size ss s f k
    cases h : f (hits ss s k) with
    | true => rw [pickP_yes h, ByteArray.size_append, letterB_size]; omega
    | false => rw [pickP_no h]; omega
theorem pickP_congr {ss : List Sc} (hv : Valid ss) (s : Nat) {f g : Nat → Bool} (h : ∀ n, n ≤ 25 → f n = g n) : ∀ k : Nat, pickP ss s f k = pickP ss s g k
  | 0 => rfl
  | k + 1 => by
    show (if _ then _ else _) = (if _ then _ else _)
    rw [h _ (hits_le hv s k), pickP_congr hv s h k]
/-- What the three functions answer. -/
def pickR (ss : List Sc) (f : Nat → Bool) (n : Int) (str : ByteArray) (ok : Bool) : Prop := (¬ HasScope ss n ∧ str = ⟨#[]⟩ ∧ ok = false) ∨ (HasScope ss n ∧ str = pickP ss n.toNat f 26 ∧ ok = true)
theorem pickR.same {ss : List Sc} {f : Nat → Bool} {n : Int} {a b : ByteArray} {ok ok' : Bool} (h : pickR ss f n a ok) (k : pickR ss f n b ok') : a = b ∧ ok = ok' := by
  rcases h with ⟨h1, rfl, rfl⟩ | ⟨h1, rfl, rfl⟩ <;> rcases k with ⟨k1, rfl, rfl⟩ | ⟨k1, rfl, rfl⟩
  · exact ⟨rfl, rfl⟩
  · exact absurd k1 h1
  · exact absurd h1 k1
  · exact ⟨rfl, rfl⟩
def PickGot (ss : List Sc) (f : Nat → Bool) (n : Int) (w : World) (e : Ending) (w' : World) : Prop := ∃ str ok, e = .returned (.tuple #[.string str, .bool ok]) ∧ pickR ss f n str ok ∧ Below w.heap.size w w'
/-- What is hidden where a declaration stands. -/
def hidesIt (ss : List Sc) (s : Nat) (nm : ByteArray) : List (Int × Int) :=
  if (fromP ss (impP ss s) nm).isEmpty = true then (match parP ss s with
    | none => []
    | some p => (lookP ss p nm).places) else fromP ss (impP ss s) nm
theorem hidesIt_from {ss : List Sc} {s : Nat} {nm : ByteArray} (h : (fromP ss (impP ss s) nm).isEmpty = false) : hidesIt ss s nm = fromP ss (impP ss s) nm := by unfold hidesIt; rw [h]; rfl
theorem hidesIt_none {ss : List Sc} {s : Nat} {nm : ByteArray} (h : (fromP ss (impP ss s) nm).isEmpty = true) (hp : parP ss s = none) : hidesIt ss s nm = [] := by unfold hidesIt; rw [h, hp]; rfl
theorem hidesIt_par {ss : List Sc} {s p : Nat} {nm : ByteArray} (h : (fromP ss (impP ss s) nm).isEmpty = true) (hp : parP ss s = some p) : hidesIt ss s nm = (lookP ss p nm).places := by unfold hidesIt; rw [h, hp]; rfl
theorem hidesIt_length {ss : List Sc} (hv : Valid ss) (s : Nat) (nm : ByteArray) : (hidesIt ss s nm).length ≤ 25 := by
  unfold hidesIt
  split
  · split
    · simp
    · exact lookF_length hv _ _
  · have h1 := fromP_length hv nm (impP ss s)
    have h2 := impP_length hv s
    omega
/-- Is a declaration there? -/
def hidesAt (ss : List Sc) (a b : Int) : List (Int × Int) := match itemAtP ss a b with
  | some x => hidesIt ss a.toNat x.name
  | none => []
end Go.Proofs.YtppgdigcopkeiaaDoor
