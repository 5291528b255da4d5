/-
  The walk of the given l1Read: the item that a text tells.
-/
import Derived.Test.YtadpgoiiopfnnaaDoorWSpecValid
import Derived.Deep.RegionWith
namespace Go.Proofs.YtadpgoiiopfnnaaDoor
open Go Go.RowKit Sg
/-- The item that a text tells, without regard to its name. -/
def readIt (s : ByteArray) : It :=
  if s.size = 2 ∧ s.data.toList[0]? = some 63 then ⟨2, s.extract 1 s.size, -1⟩
  else if s.size = 2 ∧ s.data.toList[0]? = some 33 then ⟨3, s.extract 1 s.size, -1⟩
  else if s.size = 3 ∧ s.data.toList[1]? = some 61 then ⟨1, s.extract 0 1, ((s.data.toList[2]?.getD 0).toNat : Int) - 48⟩
  else ⟨1, s, -1⟩
/-- A byte of a text against a number, as a walk asks. -/
theorem byte_eq {s : ByteArray} {i : Nat} (h : i < s.size) {c : UInt8} (hc : s.data.toList[i]? = some c) : ((((s[i]'h).toNat : Nat) : Int) == (c.toNat : Int)) = true := by
  have h1 : s.data.toList[i]? = some (s[i]'h) := List.getElem?_eq_getElem (by simpa using h)
  rw [h1] at hc
  rw [Option.some.inj hc]
  exact beq_self_eq_true _
theorem byte_ne {s : ByteArray} {i : Nat} (h : i < s.size) {c : UInt8} (hc : ¬ s.data.toList[i]? = some c) : ((((s[i]'h).toNat : Nat) : Int) == (c.toNat : Int)) = false := by
  have h1 : s.data.toList[i]? = some (s[i]'h) := List.getElem?_eq_getElem (by simpa using h)
  rw [beq_eq_false_iff_ne]
  intro e
  apply hc
  rw [h1]
  congr 1
  apply UInt8.toNat_inj.1
  omega
def ReadPost (s : ByteArray) (w : World) (e : Ending) (w' : World) : Prop := e = .returned (.tuple #[.agg #[.int .i64 (readIt s).kind, .string (readIt s).name, .int .i64 (readIt s).scope], .bool (nameB (readIt s).name)]) ∧ Below w.heap.size w w'
set_option maxRecDepth 100000 in
set_option maxHeartbeats 4000000 in
theorem l1Read_q (s : ByteArray) (_hs : s.size ≤ 1048576) (w : World) (hq : s.size = 2 ∧ s.data.toList[0]? = some 63) : Calls Tryd.prog 178 #[.string s] w (ReadPost s w) := by
  have HE : Hid (readIt s = ⟨2, s.extract 1 s.size, -1⟩) := Lib.hid (by unfold readIt; rw [if_pos hq])
  have h0 : 0 < s.size := by omega
  have h2' : (((s.size : Nat) : Int) == 2) = true := by simp; omega
  have hb : ((((s[0]'h0).toNat : Nat) : Int) == 63) = true := byte_eq h0 hq.2
  have h1 : 1 ≤ s.size := by omega
  clear hq
  clear _hs
  go_enter Tryd.func178, Tryd.ntmps178
  go_wp2
  go_region_with (first | (go_at_call 107; refine (l1Name_any _ _).mono ?_; rintro e w3 ⟨rfl, rfl⟩))
  all_goals go_wp2
  all_goals refine bodyPost_ret (v := .tuple #[.agg #[.int .i64 2, .string (s.extract 1 s.size), .int .i64 (-1)], .bool (nameB (s.extract 1 s.size))]) (by simp [results, Tryd.results178, go_sem]) rfl ⟨by rw [HE.out], ?_⟩
  all_goals exact (((Below.refl _ _).alloc (Nat.le_refl _) _).alloc (by simp) _).drew
set_option maxRecDepth 100000 in
set_option maxHeartbeats 4000000 in
theorem l1Read_e (s : ByteArray) (_hs : s.size ≤ 1048576) (w : World) (hn : ¬ s.data.toList[0]? = some 63) (hq : s.size = 2 ∧ s.data.toList[0]? = some 33) : Calls Tryd.prog 178 #[.string s] w (ReadPost s w) := by
  have HE : Hid (readIt s = ⟨3, s.extract 1 s.size, -1⟩) := Lib.hid (by unfold readIt; rw [if_neg (fun h => hn h.2), if_pos hq])
  have h0 : 0 < s.size := by omega
  have h2' : (((s.size : Nat) : Int) == 2) = true := by simp; omega
  have ha : ((((s[0]'h0).toNat : Nat) : Int) == 63) = false := byte_ne h0 hn
  have hb : ((((s[0]'h0).toNat : Nat) : Int) == 33) = true := byte_eq h0 hq.2
  have h1 : 1 ≤ s.size := by omega
  clear hq hn
  clear _hs
  go_enter Tryd.func178, Tryd.ntmps178
  go_wp2
  go_region_with (first | (go_at_call 107; refine (l1Name_any _ _).mono ?_; rintro e w3 ⟨rfl, rfl⟩))
  all_goals go_wp2
  all_goals refine bodyPost_ret (v := .tuple #[.agg #[.int .i64 3, .string (s.extract 1 s.size), .int .i64 (-1)], .bool (nameB (s.extract 1 s.size))]) (by simp [results, Tryd.results178, go_sem]) rfl ⟨by rw [HE.out], ?_⟩
  all_goals exact (((Below.refl _ _).alloc (Nat.le_refl _) _).alloc (by simp) _).drew
set_option maxRecDepth 100000 in
set_option maxHeartbeats 4000000 in
theorem l1Read_2 (s : ByteArray) (_hs : s.size ≤ 1048576) (w : World) (h2 : s.size = 2) (hn : ¬ s.data.toList[0]? = some 63) (hn2 : ¬ s.data.toList[0]? = some 33) : Calls Tryd.prog 178 #[.string s] w (ReadPost s w) := by
  have HE : Hid (readIt s = ⟨1, s, -1⟩) := Lib.hid (by unfold readIt; rw [if_neg (fun h => hn h.2), if_neg (fun h => hn2 h.2), if_neg (by omega)])
  have h0 : 0 < s.size := by omega
  have h2' : (((s.size : Nat) : Int) == 2) = true := by simp; omega
  have h3' : (((s.size : Nat) : Int) == 3) = false := by simp; omega
  have ha : ((((s[0]'h0).toNat : Nat) : Int) == 63) = false := byte_ne h0 hn
  have hb : ((((s[0]'h0).toNat : Nat) : Int) == 33) = false := byte_ne h0 hn2
  clear hn hn2 h2
  clear _hs
  go_enter Tryd.func178, Tryd.ntmps178
  go_wp2
  go_region_with (first | (go_at_call 107; refine (l1Name_any _ _).mono ?_; rintro e w3 ⟨rfl, rfl⟩))
  all_goals go_wp2
  all_goals refine bodyPost_ret (v := .tuple #[.agg #[.int .i64 1, .string s, .int .i64 (-1)], .bool (nameB s)]) (by simp [results, Tryd.results178, go_sem]) rfl ⟨by rw [HE.out], ?_⟩
  all_goals exact (((Below.refl _ _).alloc (Nat.le_refl _) _).alloc (by simp) _).drew
set_option maxRecDepth 100000 in
set_option maxHeartbeats 4000000 in
theorem l1Read_3 (s : ByteArray) (_hs : s.size ≤ 1048576) (w : World) (hq : s.size = 3 ∧ s.data.toList[1]? = some 61) : Calls Tryd.prog 178 #[.string s] w (ReadPost s w) := by
  have h2 : 2 < s.size := by omega
  have h1 : 1 < s.size := by omega
  have HE : Hid (readIt s = ⟨1, s.extract 0 1, (((s[2]'h2).toNat : Nat) : Int) - 48⟩) := Lib.hid (by
    unfold readIt
    rw [if_neg (by omega), if_neg (by omega), if_pos hq]
    have h1 : s.data.toList[2]? = some (s[2]'h2) := List.getElem?_eq_getElem (by simpa using h2)
    rw [h1]
    rfl)
  have h2' : (((s.size : Nat) : Int) == 2) = false := by simp; omega
  have h3' : (((s.size : Nat) : Int) == 3) = true := by simp; omega
  have hb : ((((s[1]'h1).toNat : Nat) : Int) == 61) = true := byte_eq h1 hq.2
  have hx : (s[2]'h2).toNat < 256 := UInt8.toNat_lt _
  clear hq
  clear _hs
  go_enter Tryd.func178, Tryd.ntmps178
  go_wp2
  go_region_with (first | (go_at_call 107; refine (l1Name_any _ _).mono ?_; rintro e w3 ⟨rfl, rfl⟩))
  all_goals go_wp2
  all_goals refine bodyPost_ret (v := .tuple #[.agg #[.int .i64 1, .string (s.extract 0 1), .int .i64 ((((s[2]'h2).toNat : Nat) : Int) - 48)], .bool (nameB (s.extract 0 1))]) (by simp [results, Tryd.results178, go_sem]) rfl ⟨by rw [HE.out], ?_⟩
  all_goals exact (((Below.refl _ _).alloc (Nat.le_refl _) _).alloc (by simp) _).drew
set_option maxRecDepth 100000 in
set_option maxHeartbeats 4000000 in
theorem l1Read_30 (s : ByteArray) (_hs : s.size ≤ 1048576) (w : World) (h3 : s.size = 3) (hn : ¬ s.data.toList[1]? = some 61) : Calls Tryd.prog 178 #[.string s] w (ReadPost s w) := by
  have h1 : 1 < s.size := by omega
  have HE : Hid (readIt s = ⟨1, s, -1⟩) := Lib.hid (by unfold readIt; rw [if_neg (by omega), if_neg (by omega), if_neg (fun h => hn h.2)])
  have h2' : (((s.size : Nat) : Int) == 2) = false := by simp; omega
  have h3' : (((s.size : Nat) : Int) == 3) = true := by simp; omega
  have hb : ((((s[1]'h1).toNat : Nat) : Int) == 61) = false := byte_ne h1 hn
  clear hn h3
  clear _hs
  go_enter Tryd.func178, Tryd.ntmps178
  go_wp2
  go_region_with (first | (go_at_call 107; refine (l1Name_any _ _).mono ?_; rintro e w3 ⟨rfl, rfl⟩))
  all_goals go_wp2
  all_goals refine bodyPost_ret (v := .tuple #[.agg #[.int .i64 1, .string s, .int .i64 (-1)], .bool (nameB s)]) (by simp [results, Tryd.results178, go_sem]) rfl ⟨by rw [HE.out], ?_⟩
  all_goals exact (((Below.refl _ _).alloc (Nat.le_refl _) _).alloc (by simp) _).drew
set_option maxRecDepth 100000 in
set_option maxHeartbeats 4000000 in
theorem l1Read_o (s : ByteArray) (_hs : s.size ≤ 1048576) (w : World) (h2 : s.size ≠ 2) (h3 : s.size ≠ 3) : Calls Tryd.prog 178 #[.string s] w (ReadPost s w) := by
  have HE : Hid (readIt s = ⟨1, s, -1⟩) := Lib.hid (by unfold readIt; rw [if_neg (by omega), if_neg (by omega), if_neg (by omega)])
  have h2' : (((s.size : Nat) : Int) == 2) = false := by simp; omega
  have h3' : (((s.size : Nat) : Int) == 3) = false := by simp; omega
  clear h2 h3
  clear _hs
  go_enter Tryd.func178, Tryd.ntmps178
  go_wp2
  go_region_with (first | (go_at_call 107; refine (l1Name_any _ _).mono ?_; rintro e w3 ⟨rfl, rfl⟩))
  all_goals go_wp2
  all_goals refine bodyPost_ret (v := .tuple #[.agg #[.int .i64 1, .string s, .int .i64 (-1)], .bool (nameB s)]) (by simp [results, Tryd.results178, go_sem]) rfl ⟨by rw [HE.out], ?_⟩
  all_goals exact (((Below.refl _ _).alloc (Nat.le_refl _) _).alloc (by simp) _).drew
theorem l1Read_any (s : ByteArray) (hs : s.size ≤ 1048576) (w : World) : Calls Tryd.prog 178 #[.string s] w (ReadPost s w) := by
  by_cases h2 : s.size = 2
  · by_cases q1 : s.data.toList[0]? = some 63
    · exact l1Read_q s hs w ⟨h2, q1⟩
    · by_cases q2 : s.data.toList[0]? = some 33
      · exact l1Read_e s hs w q1 ⟨h2, q2⟩
      · exact l1Read_2 s hs w h2 q1 q2
  · by_cases h3 : s.size = 3
    · by_cases q1 : s.data.toList[1]? = some 61
      · exact l1Read_3 s hs w ⟨h3, q1⟩
      · exact l1Read_30 s hs w h3 q1
    · exact l1Read_o s hs w h2 h3
end Go.Proofs.YtadpgoiiopfnnaaDoor
