/-
  Sets of places as arrays of truths: impl's placeSet.has and placeSet.add, and the walk of (*lookup).seen. Conditions: the lookup lies in memory.
-/
import Derived.Test.YtgehpaojbnpbcaaGreatDoorWPickIZ
import Derived.Laws.Rows
namespace Go.Proofs.YtgehpaojbnpbcaaGreatDoor
open Go Go.RowKit Go.Maps
/-- The cells of a set of places: place (i, j) in cell i * 5 + j. -/
def psetL (f : Nat → Bool) : List Value := (List.range 30).map fun k => .bool (f k)
theorem psetL_length (f : Nat → Bool) : (psetL f).length = 30 := by simp [psetL]
theorem psetL_get (f : Nat → Bool) {k : Nat} (hk : k < 30) : (psetL f)[k]? = some (.bool (f k)) := by
  unfold psetL
  rw [List.getElem?_map, List.getElem?_range hk]
  rfl
theorem psetL_congr {f g : Nat → Bool} (h : ∀ k, k < 30 → f k = g k) : psetL f = psetL g := by
  unfold psetL
  exact List.map_congr_left fun k hk => by rw [h k (List.mem_range.1 hk)]
theorem psetL_set (f : Nat → Bool) (k : Nat) : (psetL f).set k (.bool true) = psetL fun i => f i || i == k := by
  apply List.ext_getElem?
  intro i
  rw [List.getElem?_set]
  by_cases hi : i < 30
  · rw [psetL_get _ hi, psetL_get _ hi, psetL_length]
    by_cases hk : k = i
    · subst hk
      simp [hi]
    · have hk' : (i == k) = false := by simpa using fun h => hk h.symm
      rw [if_neg hk, hk', Bool.or_false]
  · have h1 : (psetL f)[i]? = none := List.getElem?_eq_none (by rw [psetL_length]; omega)
    have h2 : (psetL fun i => f i || i == k)[i]? = none := List.getElem?_eq_none (by rw [psetL_length]; omega)
    rw [h1, h2, psetL_length]
    by_cases hk : k = i
    · rw [if_pos hk, if_neg (by omega)]
    · rw [if_neg hk]
/-- Is the place with this number in a list? -/
def inPl (l : List (Int × Int)) (q : Nat) : Bool := l.any fun p => p.1 * 5 + p.2 == (q : Int)
theorem inPl_snoc (l : List (Int × Int)) (i j : Nat) (q : Nat) : inPl (l ++ [((i : Int), (j : Int))]) q = (inPl l q || q == i * 5 + j) := by
  unfold inPl
  rw [List.any_append]
  congr 1
  simp only [List.any_cons, List.any_nil, Bool.or_false]
  rw [Bool.eq_iff_iff]
  simp only [beq_iff_eq]
  omega
/-- Places of scopes that there can be. -/
def SmallPls (l : List (Int × Int)) : Prop := ∀ p ∈ l, ∃ i j : Nat, p = ((i : Int), (j : Int)) ∧ i < 6 ∧ j < 5
set_option maxRecDepth 100000 in
set_option maxHeartbeats 1600000 in
theorem phas_any {w : World} {g : Nat} {f : Nat → Bool} (h : Row w g 117 (psetL f)) {i j : Nat} (hi : i < 6) (hj : j < 5) :
    Calls Tryz.prog 72 #[.pointer (some ⟨g, 0, none⟩), .agg #[.int .i64 (i : Int), .int .i64 (j : Int)]] w fun e w' => e = .returned (.bool (f (i * 5 + j))) ∧ Below w.heap.size w w' := by
  have hbP := (Below.refl w.heap.size w).alloc (Nat.le_refl _) (.cells #[.int .i64 (i : Int), .int .i64 (j : Int)] 59)
  have c0 := cell_drew ((h.alloc (.cells #[.int .i64 (i : Int), .int .i64 (j : Int)] 59)).cell (psetL_get f (show i * 5 + j < 30 by omega)))
  have RP := Row.new w [.int .i64 (i : Int), .int .i64 (j : Int)] 59
  have p0 := cell_drew (RP.cell (i := 0) (v := .int .i64 (i : Int)) (by rfl))
  have p1 := cell_drew (RP.cell (i := 1) (v := .int .i64 (j : Int)) (by rfl))
  have hi' : (i : Int) < 6 := by omega
  have hj' : (j : Int) < 5 := by omega
  have HB := Lib.hid hbP
  clear h RP hbP
  go_enter Tryz.func72, Tryz.ntmps72
  go_wp2
  go_region
  all_goals go_wp2
  all_goals go_ret
  all_goals exact ⟨rfl, HB.out.drew⟩
set_option maxRecDepth 100000 in
set_option maxHeartbeats 1600000 in
theorem padd_any {w : World} {g : Nat} {f : Nat → Bool} (h : Row w g 117 (psetL f)) {oa : Option Addr} {cap : Nat} {l : List (Int × Int)} (hl : l.length ≤ 1000) (hs : SmallPls l) (ha : ArgPlaces w oa l) (hg : ∀ b off, oa = some ⟨b, off, none⟩ → l ≠ [] → b ≠ g) :
    Calls Tryz.prog 101 #[.pointer (some ⟨g, 0, none⟩), .slice oa l.length cap] w fun e w' => e = .returned (.tuple #[]) ∧ Row w' g 117 (psetL fun q => f q || inPl l q) ∧ Turns w w' g g := by
  have HL0 := Lib.hid h
  have HS := Lib.hid hs
  have HA := Lib.hid ha
  have HG := Lib.hid hg
  have hgl := h.lt
  clear h hs ha hg
  go_enter Tryz.func101, Tryz.ntmps101
  go_wp2
  go_loopw [8] (fun i wr => ∃ k : Nat, i = .int .i64 k ∧ k ≤ l.length ∧ Hid (Row wr g 117 (psetL fun q => f q || inPl (l.take k) q) ∧ Turns w wr g g)) (fun i _ => l.length - (intOf i).toNat)
  case atStart => exact ⟨0, rfl, Nat.zero_le _, Lib.hid ⟨by rw [show (psetL fun q => f q || inPl (l.take 0) q) = psetL f from psetL_congr fun k _ => by simp [inPl]]; exact HL0.out, Turns.refl _ _ _⟩⟩
  case round =>
    obtain ⟨k, rfl, hk, hP⟩ := hrel
    by_cases hlt : k < l.length
    · obtain ⟨p, hp⟩ : ∃ p, l[k]? = some p := ⟨_, List.getElem?_eq_getElem hlt⟩
      obtain ⟨i, j, rfl, hi, hj⟩ := HS.out p (List.mem_of_getElem? hp)
      obtain ⟨b1, f1, rfl, hb1, q1⟩ := HA.out.at (by omega)
      have hne := HG.out b1 f1 rfl (fun e => by rw [e] at hlt; simp at hlt)
      obtain ⟨c0, c1⟩ := q1 k _ hp
      have hbl := hP.out.2.rest b1 hb1 hne hne
      have d0 : wr.cell? ⟨b1, f1 + k * 2, none⟩ = some (.int .i64 (i : Int)) := (World.cell?_of_block (a := ⟨b1, f1 + k * 2, none⟩) hbl).trans c0
      have d1 : wr.cell? ⟨b1, f1 + k * 2 + 1, none⟩ = some (.int .i64 (j : Int)) := (World.cell?_of_block (a := ⟨b1, f1 + k * 2 + 1, none⟩) hbl).trans c1
      have HTK : Hid ((psetL fun q => f q || inPl (l.take (k + 1)) q) = (psetL fun q => f q || inPl (l.take k) q).set (i * 5 + j) (.bool true)) := Lib.hid (by
        rw [psetL_set]
        refine psetL_congr fun q _ => ?_
        rw [List.take_add_one, hp]
        simp only [Option.toList_some]
        rw [inPl_snoc, Bool.or_assoc])
      have hwl : g < wr.heap.size := hP.out.1.lt
      have RA := hP.out.1.alloc (.cells #[.int .i64 (i : Int), .int .i64 (j : Int)] 59)
      have RS := (hP.out.1.set (i * 5 + j) (.bool true)).alloc (.cells #[.int .i64 (i : Int), .int .i64 (j : Int)] 59)
      rw [← HTK.out] at RS
      have HRS := Lib.hid RS
      have s0 := cell_drew (RA.cell (psetL_get _ (show i * 5 + j < 30 by omega)))
      have s1 : ∀ n, ((wr.alloc (.cells #[.int .i64 (i : Int), .int .i64 (j : Int)] 59)).drew).frozen? ⟨g, n, none⟩ = false := fun n => RA.frozen n
      have RP := Row.new wr [.int .i64 (i : Int), .int .i64 (j : Int)] 59
      have p0 := cell_drew (RP.cell (i := 0) (v := .int .i64 (i : Int)) (by rfl))
      have p1 := cell_drew (RP.cell (i := 1) (v := .int .i64 (j : Int)) (by rfl))
      have HT : Hid (Turns w (((wr.setCell ⟨g, i * 5 + j, none⟩ (.bool true)).alloc (.cells #[.int .i64 (i : Int), .int .i64 (j : Int)] 59)).drew) g g) := Lib.hid
        (hP.out.2.trans ((Turns.set wr g _ _).trans (.of_below (((Below.refl _ _).alloc (Nat.le_refl _) _).drew))))
      have hi' : (i : Int) < 6 := by omega
      have hj' : (j : Int) < 5 := by omega
      clear hp hne c0 c1 hbl RA RS RP q1
      go_upto_region 3 with (fail)
      go_region
      all_goals go_wp2
      all_goals go_roundw
      all_goals first
        | exact ⟨k + 1, by go_num, by omega, Lib.hid ⟨HRS.out, HT.out⟩⟩
        | (simp only [intOf]; omega)
    · obtain rfl : k = l.length := by omega
      have HE : Hid ((psetL fun q => f q || inPl (l.take l.length) q) = psetL fun q => f q || inPl l q) := Lib.hid (by rw [List.take_length])
      go_wp2
      go_end0
      exact ⟨rfl, by rw [← HE.out]; exact hP.out.1, hP.out.2⟩
end Go.Proofs.YtgehpaojbnpbcaaGreatDoor
namespace Go.Proofs.YtgehpaojbnpbcaaGreatDoor
open Go Go.RowKit Go.Maps
attribute [local go_sem ↓] field_places
theorem below_setRow (W : World) (g : Nat) (cs : Array Value) {N : Nat} (hg : N ≤ g) : Below N W (W.setRow g cs) :=
  ⟨rfl, rfl, rfl, by simp, fun k hk => setRow_other W g k cs (by omega)⟩
theorem psetL_one (f : Nat → Bool) : (psetL f).toArray.all (·.oneCell') = true := by
  have h : ∀ v ∈ psetL f, v.oneCell' = true := by
    intro v hv
    unfold psetL at hv
    obtain ⟨k, _, rfl⟩ := List.mem_map.1 hv
    rfl
  rw [Array.all_eq_true]
  intro i hi
  have h1 := h _ (List.getElem_mem (l := psetL f) (n := i) (by simpa using hi))
  simpa using h1
theorem psetL_info (f : Nat → Bool) : (Tryz.prog.info? 117).map (·.size) = some (psetL f).toArray.size := by
  rw [List.size_toArray, psetL_length]
  kernel_rfl
end Go.Proofs.YtgehpaojbnpbcaaGreatDoor
