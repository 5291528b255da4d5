/-
  The walks of NameOfState, the given one's and impl's, and of the law FnExactNameOfState. Condition: the table of words holds the five words.
-/
import Derived.Test.YtimcobenmgbciaaDoorBase
namespace Go.Proofs.YtimcobenmgbciaaDoor
open Go Go.RowKit
def word0 : ByteArray := ⟨#[110, 111, 110, 101]⟩
def word1 : ByteArray := ⟨#[102, 111, 117, 110, 100]⟩
def word2 : ByteArray := ⟨#[109, 105, 115, 115, 105, 110, 103]⟩
def word3 : ByteArray := ⟨#[97, 109, 98, 105, 103, 117, 111, 117, 115]⟩
def word4 : ByteArray := ⟨#[112, 108, 97, 105, 110]⟩
/-- The word of a state. -/
def wordP (z : Int) : ByteArray := if z = 1 then word1 else if z = 2 then word2 else if z = 3 then word3 else if z = 4 then word4 else word0
structure WordsAt (w : World) : Prop where
  c0 : w.cell? ⟨0, 0, none⟩ = some (.string ⟨#[110, 111, 110, 101]⟩)
  c1 : w.cell? ⟨0, 1, none⟩ = some (.string ⟨#[102, 111, 117, 110, 100]⟩)
  c2 : w.cell? ⟨0, 2, none⟩ = some (.string ⟨#[109, 105, 115, 115, 105, 110, 103]⟩)
  c3 : w.cell? ⟨0, 3, none⟩ = some (.string ⟨#[97, 109, 98, 105, 103, 117, 111, 117, 115]⟩)
  c4 : w.cell? ⟨0, 4, none⟩ = some (.string ⟨#[112, 108, 97, 105, 110]⟩)
theorem specName_any (z : Int) (w : World) : Calls Tryd.prog 20 #[.int .i64 z] w fun e w' => e = .returned (.string (wordP z)) ∧ w' = w := by
  by_cases h1 : z = 1
  · subst h1
    go_enter Tryd.func20, Tryd.ntmps20
    go_wp2
    go_ret
    exact ⟨rfl, rfl⟩
  by_cases h2 : z = 2
  · subst h2
    go_enter Tryd.func20, Tryd.ntmps20
    go_wp2
    go_ret
    exact ⟨rfl, rfl⟩
  by_cases h3 : z = 3
  · subst h3
    go_enter Tryd.func20, Tryd.ntmps20
    go_wp2
    go_ret
    exact ⟨rfl, rfl⟩
  by_cases h4 : z = 4
  · subst h4
    go_enter Tryd.func20, Tryd.ntmps20
    go_wp2
    go_ret
    exact ⟨rfl, rfl⟩
  have HE : Hid (wordP z = word0) := Lib.hid (by unfold wordP; rw [if_neg h1, if_neg h2, if_neg h3, if_neg h4])
  have k1 : (z == 1) = false := by simpa using h1
  have k2 : (z == 2) = false := by simpa using h2
  have k3 : (z == 3) = false := by simpa using h3
  have k4 : (z == 4) = false := by simpa using h4
  clear h1 h2 h3 h4
  go_enter Tryd.func20, Tryd.ntmps20
  go_wp2
  go_ret
  exact ⟨by rw [HE.out]; rfl, rfl⟩
theorem implName_any (z : Int) (w : World) (hw : WordsAt w) : Calls Tryd.prog 19 #[.int .i64 z] w fun e w' => e = .returned (.string (wordP z)) ∧ w' = w := by
  obtain ⟨c0, c1, c2, c3, c4⟩ := hw
  by_cases h0 : z < 0
  · have HE : Hid (wordP z = word0) := Lib.hid (by unfold wordP; rw [if_neg (by omega), if_neg (by omega), if_neg (by omega), if_neg (by omega)])
    go_enter Tryd.func19, Tryd.ntmps19
    go_wp2
    go_ret
    exact ⟨by rw [HE.out]; rfl, rfl⟩
  by_cases h5 : 4 < z
  · have HE : Hid (wordP z = word0) := Lib.hid (by unfold wordP; rw [if_neg (by omega), if_neg (by omega), if_neg (by omega), if_neg (by omega)])
    go_enter Tryd.func19, Tryd.ntmps19
    go_wp2
    go_ret
    exact ⟨by rw [HE.out]; rfl, rfl⟩
  have hz : z = 0 ∨ z = 1 ∨ z = 2 ∨ z = 3 ∨ z = 4 := by omega
  clear h0 h5
  rcases hz with rfl | rfl | rfl | rfl | rfl
  all_goals go_enter Tryd.func19, Tryd.ntmps19
  all_goals go_wp2
  all_goals go_ret
  all_goals exact ⟨rfl, rfl⟩
end Go.Proofs.YtimcobenmgbciaaDoor
