/-
  The walk of spec.l13Dec: at every number it returns its decimal numeral, as Itoa does; only new memory is written. The walk of spec.l13Num: at every text it returns the canonical number and whether there is one; memory stays as it is. The walk of spec.l13Cut: at every text of at most 2^20 bytes and every byte it returns a slice of its own that holds the pieces of the text between these bytes; what was there before stays.
-/
import Derived.Test.YtadpgoiiopfnnaaDoorNumText
import Derived.Test.YtadpgoiiopfnnaaDoorProg
import Derived.WalkKit
import Derived.Lib.Hide
import Derived.Outline
import Derived.Laws.BytesArg
import Derived.Lib.ItoaLen
import Derived.Deep.DeepCutAuto
import Derived.Test.YtadpgoiiopfnnaaDoorBase
namespace Go.Proofs.YtadpgoiiopfnnaaDoor
open Go Go.RowKit Sg
theorem one_byte_cell (w : World) (x : Int) (i : Nat) (hi : i < 1) : (w.alloc (.cells #[.int .u8 x] 5)).cell? ⟨w.heap.size, 0 + i, none⟩ = some (.int .u8 ([x].getD i 0)) := by
  obtain rfl : i = 0 := by omega
  simp
/-- One byte made a text. -/
theorem conv_one (w : World) (x : Int) : (convert 58 9 (.slice (some ⟨w.heap.size, 0, none⟩) 1 1)).run Tryd.prog (w.alloc (.cells #[.int .u8 x] 5)) = .ok (.string (strOfNums [x])) (w.alloc (.cells #[.int .u8 x] 5)) :=
  run_convert_bytes_arg _ 58 5 Tryd.underlying58 Tryd.underlying5 w.heap.size 0 1 1 [x] rfl (one_byte_cell w x) 9 Tryd.underlying9
theorem byte_ahead (k : Nat) (out : List UInt8) : strOfNums [48 + (k : Int)] ++ (⟨out.toArray⟩ : ByteArray) = ⟨(UInt8.ofNat (48 + k) :: out).toArray⟩ := by
  apply ByteArray.ext
  apply Array.toList_inj.1
  rw [ByteArray.data_append, Array.toList_append, strOfNums_data]
  simp [show ((48 : Int) + (k : Int)).toNat = 48 + k from by omega]
theorem minus_ahead (l : List UInt8) : (⟨#[45]⟩ : ByteArray) ++ (⟨l.toArray⟩ : ByteArray) = ⟨(45 :: l).toArray⟩ := by
  apply ByteArray.ext
  apply Array.toList_inj.1
  rw [ByteArray.data_append, Array.toList_append]; simp
theorem digits_step {k : Nat} (h : ¬ k < 10) (out : List UInt8) : Lib.decDigits k ++ out = Lib.decDigits (k / 10) ++ (UInt8.ofNat (48 + k % 10) :: out) := by
  rw [Lib.decDigits, dif_neg h]; simp
theorem digits_last {k : Nat} (h : k < 10) (out : List UInt8) : Lib.decDigits k ++ out = UInt8.ofNat (48 + k) :: out := by
  rw [Lib.decDigits, dif_pos h]; rfl
set_option maxRecDepth 100000 in
set_option maxHeartbeats 1600000 in
theorem dec_nat (n : Nat) (w : World) (hn : n ≤ 2 ^ 63 - 1) :
    Calls Tryd.prog 180 #[.int .i64 (n : Int)] w fun e w' => e = .returned (.string ⟨(Lib.decDigits n).toArray⟩) ∧ Below w.heap.size w w' := by
  have h0 : (0 : Int) ≤ (n : Int) := by omega
  go_enter Tryd.func180, Tryd.ntmps180
  go_wp2
  go_loopw [0, 3] (fun v s wr => ∃ (k : Nat) (out : List UInt8), v = .int .i64 k ∧ s = .string ⟨out.toArray⟩ ∧ k ≤ n ∧ Hid (Lib.decDigits n = Lib.decDigits k ++ out) ∧ Below w.heap.size w wr) (fun v _ _ => (intOf v).toNat)
  case atStart => exact ⟨n, [], rfl, rfl, Nat.le_refl _, Lib.hid (by simp), Below.refl _ _⟩
  case round =>
    obtain ⟨k, out, rfl, rfl, hk, hd, hb⟩ := hrel
    have hol : out.length ≤ 20 := by
      have h1 := congrArg List.length hd.out
      have h2 := Lib.nDigits_le20 n (by omega)
      rw [List.length_append, Lib.decDigits_length] at h1
      omega
    by_cases hlt : (9 : Int) < (k : Int)
    · have hconv := fun x => conv_one wr x
      have hsz : (strOfNums [48 + (k : Int) % 10]).size + out.length ≤ 21 := by rw [strOfNums_size]; simp; omega
      go_wp2
      go_roundw
      case rel => exact ⟨k / 10, UInt8.ofNat (48 + k % 10) :: out, by go_num, by rw [← byte_ahead]; go_num, by omega, Lib.hid (hd.out.trans (digits_step (by omega) out)), hb.alloc hb.size _⟩
      case measure => simp only [intOf]; omega
    · have hconv := fun x => conv_one wr x
      have hsz : (strOfNums [48 + (k : Int)]).size + out.length ≤ 21 := by rw [strOfNums_size]; simp; omega
      have HF := Lib.hid (byte_ahead k out)
      go_wp2
      go_ret
      exact ⟨by rw [HF.out, ← digits_last (by omega), ← hd.out]; rfl, hb.alloc hb.size _⟩
theorem dec_len (n : Nat) (hn : n ≤ 2 ^ 63 - 1) : (Lib.decDigits n).length ≤ 20 := by
  rw [Lib.decDigits_length]; exact Lib.nDigits_le20 n (by omega)
theorem itoa_min : Lib.itoa (-9223372036854775808) = [45, 57, 50, 50, 51, 51, 55, 50, 48, 51, 54, 56, 53, 52, 55, 55, 53, 56, 48, 56] := by decide +kernel
set_option maxRecDepth 100000 in
set_option maxHeartbeats 1600000 in
theorem dec_neg (n : Nat) (w : World) (hn : n ≤ 2 ^ 63 - 1) (h1 : 1 ≤ n) :
    Calls Tryd.prog 180 #[.int .i64 (-(n : Int))] w fun e w' => e = .returned (.string ⟨(Lib.itoa (-(n : Int))).toArray⟩) ∧ Below w.heap.size w w' := by
  have h2 : -(n : Int) < 0 := by omega
  have h3 : (-9223372036854775807 : Int) ≤ -(n : Int) := by omega
  have hl := dec_len n hn
  have e : Lib.itoa (-(n : Int)) = 45 :: Lib.decDigits n := by
    unfold Lib.itoa
    rw [if_pos h2]; simp
  rw [e]
  have HE := Lib.hid (dec_nat n · hn)
  clear e
  go_enter Tryd.func180, Tryd.ntmps180
  go_wp2_with fail
  refine (HE.out _).mono ?_
  rintro e w1 ⟨rfl, hb1⟩
  have HF := Lib.hid (minus_ahead (Lib.decDigits n))
  go_wp2
  go_ret
  exact ⟨by rw [← HF.out]; rfl, hb1⟩
set_option maxRecDepth 100000 in
theorem dec_min (w : World) :
    Calls Tryd.prog 180 #[.int .i64 (-9223372036854775808)] w fun e w' => e = .returned (.string ⟨(Lib.itoa (-9223372036854775808)).toArray⟩) ∧ Below w.heap.size w w' := by
  rw [itoa_min]
  go_enter Tryd.func180, Tryd.ntmps180
  go_wp2
  go_ret
  exact ⟨rfl, Below.refl _ _⟩
/-- l13Dec is Itoa. -/
theorem dec_any (n : Int) (h0 : -9223372036854775808 ≤ n) (h1 : n ≤ 9223372036854775807) (w : World) :
    Calls Tryd.prog 180 #[.int .i64 n] w fun e w' => e = .returned (.string ⟨(Lib.itoa n).toArray⟩) ∧ Below w.heap.size w w' := by
  by_cases hp : 0 ≤ n
  · obtain ⟨k, rfl⟩ := Int.eq_ofNat_of_zero_le hp
    have e : Lib.itoa (k : Int) = Lib.decDigits k := by unfold Lib.itoa; rw [if_neg (by omega)]; simp
    rw [e]
    exact dec_nat k w (by omega)
  · by_cases hm : n = -9223372036854775808
    · subst hm; exact dec_min w
    · obtain ⟨k, hk⟩ : ∃ k : Nat, n = -(k : Int) := ⟨n.natAbs, by omega⟩
      subst hk
      exact dec_neg k w (by omega) (by omega)
end Go.Proofs.YtadpgoiiopfnnaaDoor
namespace Go.Proofs.YtadpgoiiopfnnaaDoor.Sg
open Go Go.RowKit
theorem all_take_succ (t : ByteArray) (k : Nat) (h : k < t.size) : (t.data.toList.take (k + 1)).all isDig = ((t.data.toList.take k).all isDig && isDig (t[k]'h)) := by
  have hl : k < t.data.toList.length := by simpa using h
  rw [List.take_succ_eq_append_getElem hl, List.all_append]; simp; rfl
theorem val_take_succ (t : ByteArray) (k : Nat) (h : k < t.size) : valF 0 (t.data.toList.take (k + 1)) = valF 0 (t.data.toList.take k) * 10 + ((t[k]'h).toNat - 48) := by
  have hl : k < t.data.toList.length := by simpa using h
  rw [List.take_succ_eq_append_getElem hl, valF_snoc]; rfl
theorem take_all (t : ByteArray) : t.data.toList.take t.size = t.data.toList := List.take_of_length_le (by simp)
theorem all_bad (t : ByteArray) (k : Nat) (h : k < t.size) (hd : isDig (t[k]'h) = false) : t.data.toList.all isDig = false := by
  rw [List.all_eq_false]
  exact ⟨t[k]'h, by have hl : k < t.data.toList.length := by simpa using h
                    exact List.getElem_mem hl, by simp [hd]⟩
end Go.Proofs.YtadpgoiiopfnnaaDoor.Sg
namespace Go.Proofs.YtadpgoiiopfnnaaDoor
open Go Go.RowKit Sg
theorem num_cases {l : List UInt8} {ng : Bool} {r : List UInt8} (h : negB l = ng) (hr : r = if ng then l.tail else l) (h48 : ng = true → r.head? ≠ some 48) :
    numB l = canonB r ∧ numI l = if canonB r then (if ng then -(valF 0 r : Int) else valF 0 r) else 0 := by
  subst h
  have e : numB l = canonB r := by
    unfold numB
    cases hn : negB l with
    | true => rw [hn] at hr h48; simp only [if_true] at hr; subst hr; rw [if_pos rfl, decide_eq_true (h48 rfl), Bool.and_true]
    | false => rw [hn] at hr; simp at hr; subst hr; simp
  refine ⟨e, ?_⟩
  unfold numI
  rw [e]
  cases hn : negB l with
  | true => rw [hn] at hr; simp only [if_true] at hr; subst hr; rfl
  | false => rw [hn] at hr; simp at hr; subst hr; rfl
theorem num_bad {l : List UInt8} (h : numB l = false) : numI l = 0 := by unfold numI; simp [h]
theorem neg_of {s : ByteArray} (h0 : 0 < s.size) : negB s.data.toList = (((s[0]'h0).toNat : Int) == 45) := by
  have hl : 0 < s.data.toList.length := by simpa using h0
  have e : s.data.toList.head? = some (s[0]'h0) := by
    rw [List.head?_eq_getElem?, List.getElem?_eq_getElem hl]; rfl
  unfold negB
  rw [e, Bool.eq_iff_iff]
  simp only [decide_eq_true_eq, Option.some.injEq, beq_iff_eq]
  constructor
  · intro h; rw [h]; rfl
  · intro h; apply UInt8.toNat_inj.1; simp; omega
theorem head_of {t : ByteArray} (h : 0 < t.size) : t.data.toList.head? = some (t[0]'h) := by
  have hl : 0 < t.data.toList.length := by simpa using h
  rw [List.head?_eq_getElem?, List.getElem?_eq_getElem hl]; rfl
theorem strip_data (s : ByteArray) : (s.extract 1 s.size).data.toList = s.data.toList.tail := by
  rw [ByteArray.data_extract, Array.toList_extract, List.extract_eq_take_drop, List.drop_one]
  exact List.take_of_length_le (by simp)
theorem canon_small {t : ByteArray} (h : t.size = 0) : canonB t.data.toList = false := by
  have : t.data.toList = [] := by rw [← List.length_eq_zero_iff]; simpa using h
  rw [this]; rfl
theorem canon_long {t : ByteArray} (h : 17 < t.size) : canonB t.data.toList = false := by
  by_cases hc : canonB t.data.toList = true
  · obtain ⟨_, h2, _⟩ := canonB_iff.1 hc
    simp at h2; omega
  · simpa using hc
theorem canon_zero {t : ByteArray} (h : 0 < t.size) (h1 : 1 < t.size) (hz : t[0]'h = 48) : canonB t.data.toList = false := by
  by_cases hc : canonB t.data.toList = true
  · obtain ⟨_, _, h3, _⟩ := canonB_iff.1 hc
    rw [head_of h, hz] at h3
    rcases h3 with h3 | h3
    · exact absurd rfl h3
    · simp at h3; omega
  · simpa using hc
theorem canon_bad {t : ByteArray} (h : t.data.toList.all isDig = false) : canonB t.data.toList = false := by
  by_cases hc : canonB t.data.toList = true
  · obtain ⟨_, _, _, h4⟩ := canonB_iff.1 hc
    rw [h] at h4; cases h4
  · simpa using hc
theorem canon_good {t : ByteArray} (h : 0 < t.size) (h17 : t.size ≤ 17) (hz : t[0]'h ≠ 48 ∨ t.size = 1) (ha : t.data.toList.all isDig = true) : canonB t.data.toList = true := by
  rw [canonB_iff]
  refine ⟨fun e => ?_, by simpa using h17, ?_, ha⟩
  · have := congrArg List.length e; rw [Array.length_toList] at this; change t.size = 0 at this; omega
  · rw [head_of h]
    rcases hz with hz | hz
    · left; simpa using hz
    · right; simpa using hz
theorem num_zero {l r : List UInt8} (hn : negB l = true) (hr : r = l.tail) (h : r.head? = some 48) : numB l = false := by
  subst hr; unfold numB; simp [hn, h]
theorem num_ends {l : List UInt8} {b : Bool} {n : Int} (h1 : numB l = b) (h2 : numI l = n) : (Ending.returned (.tuple #[.int .i64 n, .bool b])) = Ending.returned (.tuple #[.int .i64 (numI l), .bool (numB l)]) := by rw [h1, h2]
/-- What the text without its sign says of the number. -/
theorem num_fin {l r : List UInt8} {ng : Bool} (hn : negB l = ng) (hr : r = if ng then l.tail else l) {n : Int} {b : Bool}
    (h : (b = false ∧ n = 0 ∧ (canonB r = false ∨ ng = true ∧ r.head? = some 48)) ∨ (b = true ∧ canonB r = true ∧ (ng = true → r.head? ≠ some 48) ∧ n = if ng then -(valF 0 r : Int) else valF 0 r)) :
    (Ending.returned (.tuple #[.int .i64 n, .bool b])) = Ending.returned (.tuple #[.int .i64 (numI l), .bool (numB l)]) := by
  rcases h with ⟨rfl, rfl, h⟩ | ⟨rfl, hc, h48, rfl⟩
  · have hb : numB l = false := by
      rcases h with h | ⟨rfl, h⟩
      · unfold numB
        cases hn' : negB l with
        | true => rw [hn'] at hn; subst hn; simp only [if_true] at hr; rw [if_pos rfl, ← hr, h]; rfl
        | false => rw [hn'] at hn; subst hn; simp at hr; subst hr; simpa using h
      · exact num_zero hn hr h
    exact num_ends hb (num_bad hb)
  · obtain ⟨e1, e2⟩ := num_cases hn hr h48
    exact num_ends (e1.trans hc) (e2.trans (by rw [if_pos hc]))
theorem size_pos {t : ByteArray} (h : ¬ t = ByteArray.empty) : 0 < t.size := by
  rcases Nat.eq_zero_or_pos t.size with h0 | h0
  · exact absurd (by apply ByteArray.ext; apply Array.eq_empty_of_size_eq_zero; exact h0) h
  · exact h0
/-- The texts at which the numeral is refused ahead of its digits. -/
def badB (r : List UInt8) (ng : Bool) : Bool := decide (r.length = 0) || decide (17 < r.length) || (decide (r.head? = some 48) && (decide (1 < r.length) || ng))
theorem badB_eq (t : ByteArray) (ng : Bool) : badB t.data.toList ng = (decide (t.size = 0) || decide (17 < t.size) || (decide (t.data.toList.head? = some 48) && (decide (1 < t.size) || ng))) := by
  unfold badB; rw [Array.length_toList]; rfl
theorem bad_fin {r : List UInt8} {ng : Bool} (h : badB r ng = true) : canonB r = false ∨ ng = true ∧ r.head? = some 48 := by
  by_cases hc : canonB r = true
  · obtain ⟨h1, h2, h3, h4⟩ := canonB_iff.1 hc
    unfold badB at h
    simp only [Bool.or_eq_true, Bool.and_eq_true, decide_eq_true_eq] at h
    rcases h with (h | h) | ⟨h, h' | h'⟩
    · exact absurd (List.length_eq_zero_iff.1 h) h1
    · omega
    · rcases h3 with h3 | h3
      · exact absurd h h3
      · omega
    · exact Or.inr ⟨h', h⟩
  · left; simpa using hc
theorem good_fin {t : ByteArray} {ng : Bool} (h : badB t.data.toList ng = false) : 0 < t.size ∧ t.size ≤ 17 ∧ (t.data.toList.head? ≠ some 48 ∨ t.data.toList.length = 1) ∧ (ng = true → t.data.toList.head? ≠ some 48) := by
  rw [badB_eq] at h
  simp only [Bool.or_eq_false_iff, Bool.and_eq_false_iff, decide_eq_false_iff_not] at h
  obtain ⟨⟨h1, h2⟩, h3⟩ := h
  refine ⟨by omega, by omega, ?_, ?_⟩
  · rcases h3 with h3 | ⟨h3, _⟩
    · exact Or.inl h3
    · right; rw [Array.length_toList]; change t.size = 1; omega
  · rintro rfl
    rcases h3 with h3 | ⟨_, h3⟩
    · exact h3
    · cases h3
theorem p3_of {t : ByteArray} (h : 0 < t.size) (h3 : t.data.toList.head? ≠ some 48 ∨ t.data.toList.length = 1) : t[0]'h ≠ 48 ∨ t.size = 1 := by
  rcases h3 with h3 | h3
  · left; rw [head_of h] at h3; simpa using h3
  · right; rw [Array.length_toList] at h3; exact h3
set_option maxHeartbeats 1600000 in
theorem l13Num_any (s : ByteArray) (w : World) (hs : s.size ≤ maxLen) :
    Calls Tryd.prog 177 #[.string s] w fun e w' => e = .returned (.tuple #[.int .i64 (numI s.data.toList), .bool (numB s.data.toList)]) ∧ w' = w := by
  unfold maxLen at hs
  obtain ⟨ng, hng⟩ : ∃ ng, negB s.data.toList = ng := ⟨_, rfl⟩
  have HN := Lib.hid hng
  clear hng
  go_enter Tryd.func177, Tryd.ntmps177
  go_upto_region 1 with (fail)
  go_cut [4] (fun s4 wc => s4 = .bool ng ∧ wc = w)
  case first =>
    by_cases h0 : 0 < s.size
    · have hn := neg_of h0
      rw [HN.out] at hn
      by_cases hneg : (((s[0]'h0).toNat : Int) == 45) = true
      · rw [hneg] at hn
        subst hn
        go_wp2
        go_meet
        exact ⟨rfl, rfl⟩
      · have hneg' : (((s[0]'h0).toNat : Int) == 45) = false := by simpa using hneg
        rw [hneg'] at hn
        subst hn
        clear hneg
        go_wp2
        go_meet
        exact ⟨rfl, rfl⟩
    · have he : s = ByteArray.empty := by
        apply ByteArray.ext; apply Array.eq_empty_of_size_eq_zero; change s.size = 0; omega
      subst he
      have hn : ng = false := by rw [← HN.out]; rfl
      subst hn
      go_wp2
      go_meet
      exact ⟨rfl, rfl⟩
  case rest =>
    obtain ⟨rfl, rfl⟩ := hcut
    go_upto_if 15 with (fail)
    go_cut [0] (fun s0 wx => ∃ t : ByteArray, s0 = .string t ∧ Hid (t.data.toList = if ng then s.data.toList.tail else s.data.toList) ∧ t.size ≤ s.size ∧ wx = wc)
    case first =>
      cases ng
      · go_wp2
        go_meet
        exact ⟨_, rfl, Lib.hid rfl, Nat.le_refl _, rfl⟩
      · have h0 : 0 < s.size := by
          rcases Nat.eq_zero_or_pos s.size with h | h
          · have e : s.data.toList = [] := by rw [← List.length_eq_zero_iff]; simpa using h
            have := HN.out
            rw [e] at this
            cases this
          · exact h
        go_wp2
        go_meet
        exact ⟨_, rfl, Lib.hid (strip_data s), by simp, rfl⟩
    case rest =>
      obtain ⟨t, rfl, ht, hts, rfl⟩ := hcut
      go_upto_region 4 with (fail)
      go_cut [38] (fun s38 wy => s38 = .bool (badB t.data.toList ng) ∧ wy = wc)
      case first =>
        by_cases h0 : t = ByteArray.empty
        · subst h0
          go_wp2
          go_meet
          exact ⟨by rw [badB_eq]; simp, rfl⟩
        have h1 : 0 < t.size := size_pos h0
        have h2 : (((t.size : Nat) : Int) == 0) = false := by rw [beq_eq_false_iff_ne]; omega
        by_cases h17 : (17 : Int) < ((t.size : Nat) : Int)
        · go_wp2
          go_meet
          exact ⟨by rw [badB_eq]; simp; omega, rfl⟩
        have h17' : ((t.size : Nat) : Int) ≤ 17 := by omega
        have hl := head_of h1
        have h3 : t.size ≠ 0 := by omega
        have h4 : ¬ 17 < t.size := by omega
        by_cases hz : (((t[0]'h1).toNat : Int)) = 48
        · have hz' : ((((t[0]'h1).toNat : Int)) == 48) = true := by rw [beq_iff_eq]; exact hz
          have hh : t.data.toList.head? = some 48 := by rw [hl]; congr 1; apply UInt8.toNat_inj.1; simp; omega
          have HH := Lib.hid hh
          clear hh hl hz
          by_cases h5 : (1 : Int) < ((t.size : Nat) : Int)
          · have h6 : 1 < t.size := by omega
            go_wp2
            go_meet
            exact ⟨by rw [badB_eq, HH.out]; simp [h3, h4, h6], rfl⟩
          · have h6 : ¬ 1 < t.size := by omega
            go_wp2
            go_meet
            exact ⟨by rw [badB_eq, HH.out]; simp [h3, h4, h6], rfl⟩
        · have hz' : ((((t[0]'h1).toNat : Int)) == 48) = false := by rw [beq_eq_false_iff_ne]; exact hz
          have hh : t.data.toList.head? ≠ some 48 := by
            rw [hl]; intro e; apply hz; rw [Option.some.inj e]; rfl
          have HH := Lib.hid hh
          clear hh hl hz
          go_wp2
          go_meet
          exact ⟨by rw [badB_eq]; simp [h3, h4, HH.out], rfl⟩
      case rest =>
        obtain ⟨rfl, rfl⟩ := hcut
        cases hb : badB t.data.toList ng with
        | true =>
          have hfin := num_fin (n := 0) (b := false) HN.out ht.out (Or.inl ⟨rfl, rfl, bad_fin hb⟩)
          have HF := Lib.hid hfin
          clear hfin hb
          go_wp2
          go_ret2
          exact ⟨HF.out, rfl⟩
        | false =>
          obtain ⟨p1, p2, p3, p4⟩ := good_fin hb
          have P3 := Lib.hid p3
          have P4 := Lib.hid p4
          clear hb p3 p4
          go_wp2
          go_loop [5, 6] (fun n i => ∃ k : Nat, k ≤ t.size ∧ i = .int .i64 k ∧ n = .int .i64 (valF 0 (t.data.toList.take k)) ∧ Hid ((t.data.toList.take k).all isDig = true)) (fun _ i => t.size - (intOf i).toNat)
          case atStart => exact ⟨0, Nat.zero_le _, rfl, rfl, Lib.hid rfl⟩
          case round =>
            obtain ⟨k, hk, rfl, rfl, hall⟩ := hrel
            have hbd : valF 0 (t.data.toList.take k) < 100000000000000000 := by
              have h1 := valF_lt (t.data.toList.take k) 0 hall.out
              have h2 : 10 ^ (t.data.toList.take k).length ≤ 10 ^ 17 := Nat.pow_le_pow_right (by omega) (by rw [List.length_take]; omega)
              omega
            by_cases hlt : k < t.size
            · have e1 := all_take_succ t k hlt
              rw [hall.out, Bool.true_and] at e1
              have E1 := Lib.hid e1
              have E2 := Lib.hid (val_take_succ t k hlt)
              clear e1
              by_cases hd : isDig (t[k]'hlt) = true
              · have hd' := hd
                simp only [isDig, Bool.and_eq_true, decide_eq_true_eq] at hd'
                obtain ⟨d1, d2⟩ := hd'
                have d1' : (48 : Int) ≤ (((t[k]'hlt).toNat : Nat) : Int) := by omega
                have d2' : (((t[k]'hlt).toNat : Nat) : Int) ≤ 57 := by omega
                have HD := Lib.hid hd
                clear hd d1 d2
                go_wp2
                go_round
                case rel => exact ⟨k + 1, by omega, by go_num, by rw [E2.out]; go_num, Lib.hid (E1.out.trans HD.out)⟩
                case measure => simp [intOf]; omega
              · have hd' : isDig (t[k]'hlt) = false := by simpa using hd
                have hfin := num_fin (n := 0) (b := false) HN.out ht.out (Or.inl ⟨rfl, rfl, Or.inl (canon_bad (all_bad t k hlt hd'))⟩)
                have HF := Lib.hid hfin
                have HD := Lib.hid hd'
                clear hfin hd hd'
                by_cases d1 : (((t[k]'hlt).toNat : Nat) : Int) < 48
                · go_wp2
                  go_ret2
                  exact ⟨HF.out, rfl⟩
                · have d2 : (57 : Int) < (((t[k]'hlt).toNat : Nat) : Int) := by
                    have := HD.out
                    simp only [isDig, Bool.and_eq_false_iff, decide_eq_false_iff_not] at this
                    omega
                  go_wp2
                  go_ret2
                  exact ⟨HF.out, rfl⟩
            · obtain rfl : k = t.size := by omega
              have hfin := num_fin (b := true) HN.out ht.out (Or.inr ⟨rfl, canon_good p1 p2 (p3_of p1 P3.out) (by have := hall.out; rw [take_all] at this; exact this), P4.out, rfl⟩)
              have HF := Lib.hid hfin
              have TA := Lib.hid (take_all t)
              clear hfin
              cases ng
              · go_wp2
                go_ret2
                exact ⟨by rw [← HF.out, TA.out]; rfl, rfl⟩
              · go_wp2
                go_ret2
                exact ⟨by rw [← HF.out, TA.out]; rfl, rfl⟩
end Go.Proofs.YtadpgoiiopfnnaaDoor
namespace Go.Proofs.YtadpgoiiopfnnaaDoor
open Go Go.RowKit Sg
theorem info9 : (Tryd.prog.info? 9).map (fun i => (i.zero, i.size, i.bytes)) = some (some (.string ByteArray.empty), 1, 16) := by kernel_rfl
/-- A text as a value. -/
def strV (p : List UInt8) : Value := .string ⟨p.toArray⟩
theorem strV_extract (s : ByteArray) (f k : Nat) : Value.string (s.extract f k) = strV ((s.data.toList.drop f).take (k - f)) := by
  unfold strV
  congr 1
  apply ByteArray.ext
  apply Array.toList_inj.1
  rw [ByteArray.data_extract, Array.toList_extract, List.extract_eq_take_drop]
theorem one_cell (b : ByteArray) : ∀ u ∈ [Value.string b], u.oneCell' = true := by
  intro u hu; simp at hu; subst hu; rfl
/-- What l13Cut's loop says of its slots and the world. -/
def CutRel (s : ByteArray) (c : UInt8) (w : World) (v f i : Value) (wr : World) : Prop :=
  ∃ (k j : Nat) (done : List (List UInt8)), i = .int .i64 k ∧ f = .int .i64 j ∧ k ≤ s.size + 1 ∧ j ≤ k ∧ done.length ≤ k ∧ Cutting c s.data.toList done j k ∧ wr.ownsRow w.heap.size 9 1 v done.length (done.map strV) ∧ Below w.heap.size w wr
theorem rel_cut {s : ByteArray} {c : UInt8} {w wr w1 : World} {v v' : Value} {k j : Nat} {done : List (List UInt8)} {x : Value} {t : TypeId} (hk : k ≤ s.size) (hd : done.length ≤ k)
    (hcut : Cutting c s.data.toList (done ++ [(s.data.toList.drop j).take (k - j)]) (k + 1) (k + 1)) (hown : wr.ownsRow w.heap.size 9 1 v done.length (done.map strV)) (hb : Below w.heap.size w wr)
    (hown' : w1.ownsRow w.heap.size 9 1 v' (done.length + 1) (done.map strV ++ [.string (s.extract j k)])) (hg : (wr.alloc (.cells #[x] t)).grownBy w1 v.ownBlock) :
    CutRel s c w v' (.int .i64 (((k : Nat) : Int) + 1)) (.int .i64 (((k : Nat) : Int) + 1)) w1 := by
  refine ⟨k + 1, k + 1, done ++ [(s.data.toList.drop j).take (k - j)], by go_num, by go_num, by omega, Nat.le_refl _, by simp; omega, hcut, ?_, ?_⟩
  · rw [List.length_append, List.map_append]
    rw [strV_extract] at hown'
    exact hown'
  · have := hb.size
    exact (hb.alloc hb.size _).grown hg (by simp; omega) (fun r hr => (hown.lt r hr).1)
set_option maxRecDepth 100000 in
set_option maxHeartbeats 1600000 in
theorem l13Cut_any (s : ByteArray) (c : UInt8) (w : World) (hs : s.size ≤ 1048576) :
    Calls Tryd.prog 176 #[.string s, .int .u8 c.toNat] w fun e w' => ∃ v, e = .returned v ∧ w'.ownsRow w.heap.size 9 1 v (parts c s.data.toList).length ((parts c s.data.toList).map strV) ∧ Below w.heap.size w w' := by
  obtain ⟨i0, hi, hz0, hz1, hz2⟩ := info_parts info9
  have hlen : s.data.toList.length = s.size := by rw [Array.length_toList]; rfl
  have HL := Lib.hid hlen
  clear hlen
  have HS := Lib.hid hs
  have hs2 : s.size < 2 ^ 62 := by omega
  clear hs
  go_enter Tryd.func176, Tryd.ntmps176
  go_wp2
  go_loopw [5, 6, 7] (fun v f i wr => CutRel s c w v f i wr) (fun _ _ i _ => s.size + 1 - (intOf i).toNat)
  case atStart => exact ⟨0, 0, [], rfl, rfl, by omega, Nat.le_refl _, Nat.le_refl _, Cutting.start _ _, World.ownsRow_made w #[] 0 (Nat.le_refl _) (by unfold maxLen; omega) rfl, (Below.refl _ _).alloc (Nat.le_refl _) _⟩
  case round =>
    obtain ⟨k, j, done, rfl, rfl, hk, hj, hd, hcut, hown, hb⟩ := hrel
    have hd2 : done.length ≤ 1048577 := by have := HS.out; omega
    have hkj : k ≤ s.size → j ≤ k := fun _ => hj
    by_cases hlt : k ≤ s.size
    · by_cases hke : k = s.size
      · subst hke
        have hcut' : Hid _ := Lib.hid (by have := hcut; rw [← HL.out] at this; have h2 := this.last; rw [HL.out] at h2; exact h2)
        clear hcut
        go_wp2_with (at_builtin; refine wpList_append_own _ rfl _ _ 217 rfl w.heap.size 9 i0 (.string ByteArray.empty) 1 16 Tryd.underlying217 hi hz0 hz1 hz2 rfl (by decide) _ _ _ rfl (hown.alloc _) ⟨wr.heap.size, 0, none⟩ 1 1 [.string (s.extract j s.size)] rfl rfl ?c1 ?c2 ?c3 ?c4 ?c5 ?_)
        case c1 => exact cells_new _ _ _
        case c2 => exact one_cell _
        case c3 => unfold maxLen; omega
        case c4 => omega
        case c5 => have := hb.size; simp only [World.size_alloc]; omega
        · intro v' w1 hown' hgrow _
          have R := Lib.hid (rel_cut (by omega) hd hcut'.out hown hb hown' hgrow)
          clear hown' hgrow hown hb
          go_wp2
          go_roundw
          case rel => exact R.out
          case measure => simp only [intOf]; omega

      · have hkl : k < s.size := by omega
        have hkl' : k < s.data.toList.length := by rw [HL.out]; exact hkl
        have hke' : ¬ (s.size = k) := fun e => hke e.symm
        have hsk : s.data.toList[k]'hkl' = s[k]'hkl := rfl
        by_cases hc : s[k]'hkl = c
        · have hcut' := Lib.hid (hcut.hit hkl' (hsk.trans hc))
          have hc1 : ((((s[k]'hkl).toNat : Nat) : Int) == (c.toNat : Int)) = true := by rw [hc]; exact beq_self_eq_true _
          clear hcut hsk hc
          go_wp2_with (at_builtin; refine wpList_append_own _ rfl _ _ 217 rfl w.heap.size 9 i0 (.string ByteArray.empty) 1 16 Tryd.underlying217 hi hz0 hz1 hz2 rfl (by decide) _ _ _ rfl (hown.alloc _) ⟨wr.heap.size, 0, none⟩ 1 1 [.string (s.extract j k)] rfl rfl ?c1 ?c2 ?c3 ?c4 ?c5 ?_)
          case c1 => exact cells_new _ _ _
          case c2 => exact one_cell _
          case c3 => unfold maxLen; omega
          case c4 => omega
          case c5 => have := hb.size; simp only [World.size_alloc]; omega
          · intro v' w1 hown' hgrow _
            have R := Lib.hid (rel_cut (by omega) hd hcut'.out hown hb hown' hgrow)
            clear hown' hgrow hown hb
            go_wp2
            go_roundw
            case rel => exact R.out
            case measure => simp only [intOf]; omega
        · have hcut' := Lib.hid (hcut.miss hkl' (fun e => hc (hsk.symm.trans e)))
          have hc1 : ((((s[k]'hkl).toNat : Nat) : Int) == (c.toNat : Int)) = false := by
            rw [beq_eq_false_iff_ne]; intro e; apply hc; apply UInt8.toNat_inj.1; omega
          clear hcut hsk hc
          go_wp2
          go_roundw
          case rel => exact ⟨k + 1, j, done, by go_num, rfl, by omega, by omega, by omega, hcut'.out, hown, hb⟩
          case measure => simp only [intOf]; omega
    · have hfin := hcut.fin (by rw [HL.out]; omega)
      subst hfin
      go_wp2
      go_ret
      exact ⟨_, rfl, hown, hb⟩
end Go.Proofs.YtadpgoiiopfnnaaDoor
