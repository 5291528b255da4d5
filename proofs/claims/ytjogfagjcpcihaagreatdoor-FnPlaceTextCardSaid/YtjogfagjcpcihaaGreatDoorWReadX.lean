/-
  The walks of impl.readNumber: at a canonical number it returns its value and no error, at every other text 0 and an error; only new memory is written. Condition: the package-level variables hold what their initialisers lay.
-/
import Derived.Test.YtjogfagjcpcihaaGreatDoorGlobsX
import Derived.Test.YtjogfagjcpcihaaGreatDoorJAX
import Derived.Outline
import Derived.Lib.Hide
import Derived.Lib.AtoiBound
import Derived.Deep.QuietTactic
import Derived.BigQuiet
namespace Go.Proofs.YtjogfagjcpcihaaGreatDoor
open Go Go.RowKit Sg
theorem itoa_below (n : Int) (h0 : 0 ≤ n) (h1 : n < 9223372036854775807) (w : World) (hg : TabGlobs w) :
    Calls Tryz.prog 85 #[.int .i64 n] w fun e w' => e = .returned (.string ⟨(Lib.itoa n).toArray⟩) ∧ Below w.heap.size w w' := by
  refine (Tryz.strconv_Itoa n (by omega) (by omega) w hg.tab).mono ?_
  rintro e w' ⟨rfl, k, os, rfl⟩
  exact ⟨rfl, below_grow _ _ _⟩
theorem itoa_canon (s : ByteArray) (h : canonB s.data.toList = true) (n : Int) (hn : n = (valF 0 s.data.toList : Int)) (w : World) (hg : TabGlobs w) :
    Calls Tryz.prog 85 #[.int .i64 n] w fun e w' => e = .returned (.string s) ∧ Below w.heap.size w w' := by
  subst hn
  have hl := canon_lt h
  obtain ⟨_, h2, _⟩ := canonB_iff.1 h
  refine (itoa_below _ (by omega) (by omega) w hg).mono ?_
  rintro e w' ⟨rfl, hb⟩
  rw [(canon_atoi h2 h).2]
  exact ⟨rfl, hb⟩
theorem atoi_ok (s : ByteArray) (n : Int) (hl : s.size ≤ 17) (h : Lib.atoi s.data.toList = some n) (w : World) :
    Calls Tryz.prog 114 #[.string s] w fun e w' => e = .returned (.tuple #[.int .i64 n, .nilIface]) ∧ Below w.heap.size w w' := by
  refine (Tryz.strconv_Atoi s n (by omega) h w).mono ?_
  rintro e w' ⟨rfl, t, rfl⟩
  exact ⟨rfl, Joins.below_bytesWorld _ _ _ _ (Nat.le_refl _)⟩
theorem atoi_bad (s : ByteArray) (hl : s.size ≤ 17) (h : Lib.atoi s.data.toList = none) (w : World) (hg : NumGlobs w) :
    Calls Tryz.prog 114 #[.string s] w fun e w' => ∃ (tp : TypeId) (p : Value), e = .returned (.tuple #[.int .i64 0, .iface tp p]) ∧ Below w.heap.size w w' := by
  obtain ⟨tp, p, hs⟩ := hg.syn
  refine (Tryz.strconv_Atoi_err_var s (by omega) h tp p w hs).mono ?_
  rintro e w' ⟨N, rfl, _, _, hb⟩
  exact ⟨_, _, rfl, hb⟩
theorem read_ok (s : ByteArray) (w : World) (hg : NumGlobs w) (hc : canonB s.data.toList = true) :
    Calls Tryz.prog 84 #[.string s] w fun e w' => e = .returned (.tuple #[.int .i64 (valF 0 s.data.toList : Int), .nilIface]) ∧ Below w.heap.size w w' := by
  obtain ⟨_, h2, _⟩ := canonB_iff.1 hc
  have hsz : s.size ≤ 17 := by rw [Array.length_toList] at h2; exact h2
  have hsz' : ((s.size : Nat) : Int) ≤ 17 := by omega
  have hlt := canon_lt hc
  obtain ⟨n, hn⟩ : ∃ n : Int, n = (valF 0 s.data.toList : Int) := ⟨_, rfl⟩
  have hat := (canon_atoi h2 hc).1
  rw [← hn] at hat ⊢
  have n0 : 0 ≤ n := by omega
  have n1 : n < 100000000000000000 := by omega
  have HAT := Lib.hid hat
  have HN := Lib.hid hn
  have HC := Lib.hid hc
  clear hat hn hc h2 hlt
  go_enter Tryz.func84, Tryz.ntmps84
  go_wp2_with fail
  refine (atoi_ok s n hsz HAT.out _).mono ?_
  rintro e w1 ⟨rfl, hb1⟩
  have hg1 := (hg.below hb1 hg.tabs.size).tabs
  go_wp2_with fail
  refine (itoa_canon s HC.out n HN.out _ hg1).mono ?_
  rintro e w2 ⟨rfl, hb2⟩
  go_wp2
  go_ret2
  exact ⟨rfl, hb1.trans (hb2.mono hb1.size)⟩
theorem read_bad (s : ByteArray) (w : World) (hg : NumGlobs w) (hc : canonB s.data.toList = false) :
    Calls Tryz.prog 84 #[.string s] w fun e w' => ∃ (tp : TypeId) (p : Value), e = .returned (.tuple #[.int .i64 0, .iface tp p]) ∧ Below w.heap.size w w' := by
  obtain ⟨tp, p, he⟩ := hg.num
  by_cases h17 : s.size ≤ 17
  · have hsz' : ((s.size : Nat) : Int) ≤ 17 := by omega
    have HC := Lib.hid hc
    clear hc
    cases hat : Lib.atoi s.data.toList with
    | none =>
      have HAT := Lib.hid hat
      clear hat
      go_enter Tryz.func84, Tryz.ntmps84
      go_wp2_with fail
      refine (atoi_bad s h17 HAT.out _ hg).mono ?_
      rintro e w1 ⟨tp1, p1, rfl, hb1⟩
      have he1 : w1.cell? ⟨3, 0, none⟩ = some (.iface tp p) := (hb1.cell (p := ⟨3, 0, none⟩) (by have := hg.tabs.size; show 3 < _; omega)).trans he
      go_wp2
      go_quiet (fail)
      go_wp2
      go_ret2
      exact ⟨_, _, rfl, below_drewN hb1 _⟩
    | some n =>
      have HAT := Lib.hid hat
      have hbd := Lib.atoi_bound hat (by rw [Array.length_toList]; change s.size ≤ 18; omega)
      obtain ⟨hb0, hb9⟩ := hbd
      clear hat
      by_cases hn : n < 0
      · go_enter Tryz.func84, Tryz.ntmps84
        go_wp2_with fail
        refine (atoi_ok s n h17 HAT.out _).mono ?_
        rintro e w1 ⟨rfl, hb1⟩
        have he1 : w1.cell? ⟨3, 0, none⟩ = some (.iface tp p) := (hb1.cell (p := ⟨3, 0, none⟩) (by have := hg.tabs.size; show 3 < _; omega)).trans he
        go_wp2
        go_quiet (fail)
        go_wp2
        go_ret2
        exact ⟨_, _, rfl, below_drewN hb1 _⟩
      · have hn0 : 0 ≤ n := by omega
        have hne : ¬ ((⟨(Lib.itoa n).toArray⟩ : ByteArray) = s) := by
          intro e
          have e2 : Lib.itoa n = s.data.toList := by rw [← e]
          have := atoi_canon (by rw [Array.length_toList]; exact h17) hn0 e2
          rw [HC.out] at this
          cases this
        obtain ⟨t, ht⟩ : ∃ t : ByteArray, (⟨(Lib.itoa n).toArray⟩ : ByteArray) = t := ⟨_, rfl⟩
        rw [ht] at hne
        have HT := Lib.hid ht
        have hne2 : (t.toList == s.toList) = false := by
          rw [beq_eq_false_iff_ne, ByteArray.toList_eq, ByteArray.toList_eq]
          intro e; apply hne; apply ByteArray.ext; exact Array.toList_inj.1 e
        clear ht hn hne
        go_enter Tryz.func84, Tryz.ntmps84
        go_wp2_with fail
        refine (atoi_ok s n h17 HAT.out _).mono ?_
        rintro e w1 ⟨rfl, hb1⟩
        have hg1 := hg.below hb1 hg.tabs.size
        go_wp2_with fail
        refine (itoa_below n hn0 (by omega) _ hg1.tabs).mono ?_
        rintro e w2 ⟨rfl, hb2⟩
        rw [HT.out]
        have hb12 := hb1.trans (hb2.mono hb1.size)
        have he1 : w2.cell? ⟨3, 0, none⟩ = some (.iface tp p) := (hb12.cell (p := ⟨3, 0, none⟩) (by have := hg.tabs.size; show 3 < _; omega)).trans he
        go_wp2
        go_quiet (fail)
        go_wp2
        go_ret2
        exact ⟨_, _, rfl, below_drewN hb12 _⟩
  · have hsz' : (17 : Int) < ((s.size : Nat) : Int) := by omega
    go_enter Tryz.func84, Tryz.ntmps84
    go_wp2
    go_quiet (fail)
    go_wp2
    go_ret2
    exact ⟨_, _, rfl, below_drewN (Below.refl _ _) _⟩
end Go.Proofs.YtjogfagjcpcihaaGreatDoor
