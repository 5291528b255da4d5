/-
  The letters that a declaration can have as its name, and the walk of the given GoodNames. Condition: the argument's memory holds the graph.
-/
import Derived.Test.YtimcobenmgbciaaGreatDoorWRenS2
import Derived.Test.YtimcobenmgbciaaGreatDoorWRenI
import Derived.Test.YtimcobenmgbciaaGreatDoorJD
namespace Go.Proofs.YtimcobenmgbciaaGreatDoor
open Go Go.RowKit
/-- Those of the letters that fit, one after the other. -/
def goodL (f : Nat → Bool) (l : List Nat) : ByteArray := l.foldl (fun s k => if f k = true then s ++ letterB k else s) ⟨#[]⟩
theorem goodL_snoc (f : Nat → Bool) (l : List Nat) (k : Nat) : goodL f (l ++ [k]) = if f k = true then goodL f l ++ letterB k else goodL f l := by
  unfold goodL
  rw [List.foldl_append]
  rfl
theorem goodL_yes {f : Nat → Bool} {l : List Nat} {k : Nat} (h : f k = true) : goodL f (l ++ [k]) = goodL f l ++ letterB k := by rw [goodL_snoc, if_pos h]
theorem goodL_no {f : Nat → Bool} {l : List Nat} {k : Nat} (h : f k = false) : goodL f (l ++ [k]) = goodL f l := by rw [goodL_snoc, if_neg (by rw [h]; decide)]
theorem goodL_size (f : Nat → Bool) : ∀ (m : Nat) (l : List Nat), l.length = m → (goodL f l).size ≤ m
  | 0, l, h => by rw [List.eq_nil_of_length_eq_zero h]; exact Nat.le_refl _
  | m + 1, l, h => by
    obtain ⟨r, k, rfl⟩ : ∃ r k, l = r ++ [k] := ⟨l.dropLast, l.getLast (by intro e; rw [e] at h; cases h), (List.dropLast_concat_getLast _).symm⟩
    have h2 : r.length = m := by simpa using h
    have ih := goodL_size f m r h2
    cases hk : f k with
    | true => rw [goodL_yes hk, ByteArray.size_append, letterB_size]; omega
    | false => rw [goodL_no hk]; omega
open Classical in
/-- Whether the declaration can have the k-th letter as its name. -/
noncomputable def goodB (ss : List Sc) (a b : Int) (k : Nat) : Bool := decide (renOk ss a b (letterB k) ∧ chgA ss (renG ss a b (letterB k)) = [])
open Classical in
theorem goodB_of {ss : List Sc} {a b : Int} {k : Nat} {q : Bool} (h : CanVal (renOk ss a b (letterB k)) (chgA ss (renG ss a b (letterB k))) q) : goodB ss a b k = q := by
  unfold goodB
  rcases h with ⟨h1, rfl⟩ | ⟨h1, rfl⟩
  · exact decide_eq_false (fun e => h1 e.1)
  · by_cases h2 : chgA ss (renG ss a b (letterB k)) = []
    · simp [h1, h2]
    · simp [h2]
/-- What GoodNames answers. -/
def goodR (ss : List Sc) (a b : Int) (str : ByteArray) (ok : Bool) : Prop := (¬ declOk ss a b ∧ str = ⟨#[]⟩ ∧ ok = false) ∨ (declOk ss a b ∧ str = goodL (goodB ss a b) (List.range 26) ∧ ok = true)
theorem goodR.same {ss : List Sc} {a b : Int} {s t : ByteArray} {ok ok' : Bool} (h : goodR ss a b s ok) (k : goodR ss a b t ok') : s = t ∧ ok = ok' := by
  rcases h with ⟨h1, rfl, rfl⟩ | ⟨h1, rfl, rfl⟩ <;> rcases k with ⟨k1, rfl, rfl⟩ | ⟨k1, rfl, rfl⟩
  · exact ⟨rfl, rfl⟩
  · exact absurd k1 h1
  · exact absurd h1 k1
  · exact ⟨rfl, rfl⟩
def GoodGot (ss : List Sc) (a b : Int) (w : World) (e : Ending) (w' : World) : Prop := ∃ str ok, e = .returned (.tuple #[.string str, .bool ok]) ∧ goodR ss a b str ok ∧ Below w.heap.size w w'
theorem cutG_nat (p : ByteArray) (j k : Nat) (hj : j ≤ k) (hk : k ≤ p.size) (w : World) : (Instr.slice 9 (.string p) (some (.int .i64 (j : Int))) (some (.int .i64 (k : Int))) none).run Tryz.prog w = .ok (.string (p.extract j k)) w := by
  simp [go_sem, hj, hk]
theorem cutG_letter {k : Nat} (hk : k < 26) (w : World) : (Instr.slice 9 (.string ⟨#[97, 98, 99, 100, 101, 102, 103, 104, 105, 106, 107, 108, 109, 110, 111, 112, 113, 114, 115, 116, 117, 118, 119, 120, 121, 122]⟩) (some (.int .i64 (k : Int))) (some (.int .i64 ((k : Int) + 1))) none).run Tryz.prog w = .ok (.string (letterB k)) w := by
  have h := cutG_nat lettersB k (k + 1) (Nat.le_succ _) (by rw [letters_size]; omega) w
  rw [letters_cut hk] at h
  exact h
end Go.Proofs.YtimcobenmgbciaaGreatDoor
