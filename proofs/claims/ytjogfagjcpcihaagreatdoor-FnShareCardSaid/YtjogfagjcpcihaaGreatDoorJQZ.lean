/-
  The walk of impl's (*nameable).canShare. Condition: the nameable lies in memory, the package-level errors hold errors. The walks of the given l10Index and l10Shared, and of slices.Index at places. Condition: the list lies in memory. The walk of impl's CanShare. Conditions: the argument's memory holds the graph; the package-level errors hold errors. The walk of the given l9Good: whether all items mean the same under a naming's letters. Condition: the memory holds the graph and what its items mean. (gengood10.py writes this text.) The walk of the given l1Places in graphs that need not be valid. Condition: the argument's memory holds the graph. The walk of the given CanShare. Condition: the argument's memory holds the graph. (genshrg.py writes this text.)
-/
import Derived.Test.YtjogfagjcpcihaaGreatDoorJPZ
import Derived.Test.YtjogfagjcpcihaaGreatDoorJNZ
import Derived.Laws.IdiomStrings
import Derived.Deep.MidRow
import Derived.Test.YtjogfagjcpcihaaGreatDoorJGZ
import Derived.Lib.QuietBelow
import Derived.BigQuiet
import Derived.Test.YtjogfagjcpcihaaGreatDoorWGdnSZ
import Derived.Test.YtjogfagjcpcihaaGreatDoorJAZ
namespace Go.Proofs.YtjogfagjcpcihaaGreatDoor
open Go Go.RowKit
/-- Bytes in a block. -/
def BytesAt (w : World) (b : Nat) (l : List UInt8) : Prop := ∀ (j : Nat) (x : UInt8), l[j]? = some x → w.cell? ⟨b, j, none⟩ = some (.int .u8 (x.toNat : Int)) ∧ w.frozen? ⟨b, j, none⟩ = false
theorem letters_pre {n : Nat} (h : n ≤ 26) : (⟨#[97, 98, 99, 100, 101, 102, 103, 104, 105, 106, 107, 108, 109, 110, 111, 112, 113, 114, 115, 116, 117, 118, 119, 120, 121, 122]⟩ : ByteArray).extract 0 n = txtN (List.range n) := by
  have e : ((List.range 27).all fun n => ((⟨#[97, 98, 99, 100, 101, 102, 103, 104, 105, 106, 107, 108, 109, 110, 111, 112, 113, 114, 115, 116, 117, 118, 119, 120, 121, 122]⟩ : ByteArray).extract 0 n).data.toList == (txtN (List.range n)).data.toList) = true := by decide +kernel
  rw [List.all_eq_true] at e
  have h1 := e n (List.mem_range.2 (by omega))
  exact ByteArray.ext (Array.ext' (by simpa using h1))
/-- Text made bytes. -/
theorem bytes_made (w : World) (T : ByteArray) : ∃ cap WA, (convert 9 22 (.string T)).run Tryz.prog w = .ok (.slice (some ⟨w.heap.size, 0, none⟩) T.size cap) WA ∧ BytesAt WA w.heap.size T.data.toList ∧ Below w.heap.size w WA := by
  refine ⟨_, _, run_bytes_of_string (P := Tryz.prog) w 9 22 5 T Tryz.underlying9 Tryz.underlying22 Tryz.underlying5, fun j x hj => ?_, ((Below.refl _ _).drew).alloc (Nat.le_refl _) _⟩
  generalize grownCap w T.size 0 5 = cp
  have hjl : j < T.data.size := by have := (List.getElem?_eq_some_iff.1 hj).1; rwa [Array.length_toList] at this
  have hrow : (bytesRow T cp)[j]? = some (.int .u8 (x.toNat : Int)) := by
    unfold bytesRow
    rw [Array.getElem?_append_left (by rw [Array.size_map]; exact hjl), Array.getElem?_map]
    rw [Array.getElem?_toList] at hj
    rw [hj]
    rfl
  have hsz : j < (bytesRow T cp).size := (Array.getElem?_eq_some_iff.1 hrow).1
  refine ⟨(World.cell?_alloc_mark w.drew _ 5 _ j).trans hrow, ?_⟩
  unfold World.frozen?
  have : (w.drew.alloc (.cells (bytesRow T cp) 5 ((bytesRow T cp).size, (bytesRow T cp).size + 1))).heap[w.heap.size]? = some (.cells (bytesRow T cp) 5 ((bytesRow T cp).size, (bytesRow T cp).size + 1)) := by
    show (w.heap.push _)[w.heap.size]? = _
    simp
  rw [this]
  simp
  omega
theorem bytes_set {w : World} {b k : Nat} {l : List UInt8} (h : BytesAt w b l) (hk : k < l.length) (x : UInt8) : BytesAt (w.setCell ⟨b, k, none⟩ (.int .u8 (x.toNat : Int))) b (l.set k x) := by
  intro j y hj
  obtain ⟨z, hz⟩ : ∃ z, l[k]? = some z := ⟨_, List.getElem?_eq_getElem hk⟩
  have h1 := h k z hz
  rw [List.getElem?_set] at hj
  by_cases he : k = j
  · subst he
    rw [if_pos rfl, if_pos hk] at hj
    cases hj
    exact ⟨World.cell?_setCell_same _ _ _ h1.1, by rw [World.frozen?_setCell]; exact h1.2⟩
  · rw [if_neg he] at hj
    have h2 := h j y hj
    exact ⟨(World.cell?_setCell_other _ _ _ _ (fun e => by injection e with _ e2 _; exact he e2)).trans h2.1, by rw [World.frozen?_setCell]; exact h2.2⟩
theorem bytes_text {w : World} {b cap : Nat} {l : List UInt8} (h : BytesAt w b l) : (convert 22 9 (.slice (some ⟨b, 0, none⟩) l.length cap)).run Tryz.prog w = .ok (.string ⟨l.toArray⟩) w :=
  run_convert_bytes_back (P := Tryz.prog) w 22 9 5 ⟨b, 0, none⟩ cap l Tryz.underlying22 Tryz.underlying5 Tryz.underlying9 fun j hj => by
    rw [show (⟨b, 0, none⟩ : Addr).add j = ⟨b, 0 + j, none⟩ from Addr.add_mid b 0 j, Nat.zero_add]
    exact (h j _ (List.getElem?_eq_getElem hj)).1
set_option maxRecDepth 100000 in
set_option maxHeartbeats 4000000 in
theorem canShare_any (ss : List Sc) (hF : Fair ss) (oa od : Option Addr) (cap cd N : Nat) (i j : Nat) (hi : i < (dclP ss).length) (hj : j < (dclP ss).length) (hne : i ≠ j) (h25 : (dclP ss).length ≤ 25) (w : World) (hN : NbIs w N ss oa cap od cd) (hE : NmgErrs w) :
    Calls Tryz.prog 72 #[.pointer (some ⟨N, 0, none⟩), .int .i64 (i : Int), .int .i64 (j : Int)] w fun e w' => e = .returned (.bool (decide (goodN ss (pairL (dclP ss).length i j)))) ∧ Below w.heap.size w w' := by
  have d0 := hN.box.cell nbL_dcl
  have hn1 : ((dclP ss).length : Int) ≤ 26 := by omega
  have hn0 : (0 : Int) ≤ ((dclP ss).length : Int) := by omega
  have hx := letters_pre (n := (dclP ss).length) (by omega)
  obtain ⟨cp, WA, kc, hbt, hbA⟩ := bytes_made w (txtN (List.range (dclP ss).length))
  rw [txtN_size, List.length_range] at kc
  have hat : ∀ k, k < (dclP ss).length → (txtN (List.range (dclP ss).length)).data.toList[k]? = some (UInt8.ofNat (97 + k)) := fun k hk => by
    rw [txtN_list, List.getElem?_map, List.getElem?_range hk]
    rfl
  obtain ⟨x, hxe⟩ : ∃ x, UInt8.ofNat (97 + min i j) = x := ⟨_, rfl⟩
  have ca := (hbt (min i j) x (by rw [hat _ (by omega), hxe])).1
  have cb := (hbt (max i j) _ (hat _ (by omega))).1
  have fb := (hbt (max i j) _ (hat _ (by omega))).2
  have hlen : (txtN (List.range (dclP ss).length)).data.toList.length = (dclP ss).length := by rw [txtN_list]; simp
  have hbB := bytes_set hbt (k := max i j) (by rw [hlen]; omega) x
  have hset : (txtN (List.range (dclP ss).length)).data.toList.set (max i j) x = (txtN (pairL (dclP ss).length i j)).data.toList := by
    rw [txtN_list, txtN_list]
    unfold pairL
    rw [List.map_set, hxe]
  rw [hset] at hbB
  have kb := bytes_text (cap := cp) hbB
  have hl2 : (txtN (pairL (dclP ss).length i j)).data.toList.length = (dclP ss).length := by rw [txtN_list]; simp [pairL_length]
  rw [hl2, show (⟨(txtN (pairL (dclP ss).length i j)).data.toList.toArray⟩ : ByteArray) = txtN (pairL (dclP ss).length i j) from by simp] at kb
  have HBB := Lib.hid (hbA.setCell (p := ⟨w.heap.size, max i j, none⟩) (Nat.le_refl _) (.int .u8 (x.toNat : Int)))
  have HOK : Hid (nmgOk ss (txtN (pairL (dclP ss).length i j))) := Lib.hid ⟨hN.ok, by have := txtN_naming (pairL_lt hi hj h25); rwa [pairL_length] at this⟩
  have C := Lib.hid (good_any ss hF oa od cap cd N (txtN (pairL (dclP ss).length i j)) (by rw [txtN_size, pairL_length]; omega) _ (hN.below HBB.out) (hE.at HBB.out))
  clear hF hE hN hbt hbA hbB hat hlen hset hl2 hxe
  rcases Nat.lt_or_gt_of_ne hne with h | h
  · rw [Nat.max_eq_right (by omega)] at cb fb HBB kb C
    rw [Nat.min_eq_left (by omega)] at ca
    have h1 : (i : Int) < (j : Int) := by omega
    have h2 : ¬ (j : Int) < (i : Int) := by omega
    clear h hne
    go_enter Tryz.func72, Tryz.ntmps72
    go_wp2_with fail
    refine C.out.mono ?_
    rintro e w2 ⟨ok, rfl, hok, hb2⟩
    have HK := Lib.hid (And.intro hok (HBB.out.trans (hb2.mono HBB.out.size)))
    clear hok hb2
    go_wp2
    go_ret
    exact ⟨by rw [(HK.out.1.elim (fun h => absurd HOK.out h.1) (fun h => h.2) : ok = decide (goodN ss (pairL (dclP ss).length i j)))]; rfl, HK.out.2⟩
  · rw [Nat.max_eq_left (by omega)] at cb fb HBB kb C
    rw [Nat.min_eq_right (by omega)] at ca
    have h1 : (j : Int) < (i : Int) := by omega
    have h2 : ¬ (i : Int) < (j : Int) := by omega
    clear h hne
    go_enter Tryz.func72, Tryz.ntmps72
    go_wp2_with fail
    refine C.out.mono ?_
    rintro e w2 ⟨ok, rfl, hok, hb2⟩
    have HK := Lib.hid (And.intro hok (HBB.out.trans (hb2.mono HBB.out.size)))
    clear hok hb2
    go_wp2
    go_ret
    exact ⟨by rw [(HK.out.1.elim (fun h => absurd HOK.out h.1) (fun h => h.2) : ok = decide (goodN ss (pairL (dclP ss).length i j)))]; rfl, HK.out.2⟩
end Go.Proofs.YtjogfagjcpcihaaGreatDoor
namespace Go.Proofs.YtjogfagjcpcihaaGreatDoor
open Go Go.RowKit
theorem posOf_no {D : List (Int × Int)} {p : Int × Int} (h : ∀ m, m < D.length → D[m]? ≠ some p) : posOf D p = -1 := posOf_not fun hp => by
  obtain ⟨m, hm⟩ := List.mem_iff_getElem?.1 hp
  exact h m (List.getElem?_eq_some_iff.1 hm).1 hm
set_option maxHeartbeats 1600000 in
theorem l10Index_any (D : List (Int × Int)) (hD : D.Nodup) (oa : Option Addr) (cap : Nat) (a b : Int) (w : World) (hn : D.length ≤ 1048576) (ha : ArgPlaces w oa D) :
    Calls Tryz.prog 78 #[.slice oa D.length cap, .agg #[.int .i64 a, .int .i64 b]] w fun e w' => e = .returned (.int .i64 (posOf D (a, b))) ∧ Below w.heap.size w w' := by
  have hb0 := (Below.refl w.heap.size w).alloc (Nat.le_refl _) (.cells #[.int .i64 a, .int .i64 b] 26)
  have RP := Lib.hid (Row.new w [.int .i64 a, .int .i64 b] 26)
  have HB0 := Lib.hid hb0
  have HA := Lib.hid ha
  obtain ⟨z, hz⟩ : ∃ z, posOf D (a, b) = z := ⟨_, rfl⟩
  rw [hz]
  have HZ := Lib.hid hz
  clear hb0 ha hz
  go_enter Tryz.func78, Tryz.ntmps78
  go_wp2
  go_loopw [9] (fun i wr => ∃ k : Nat, i = .int .i64 k ∧ k ≤ D.length ∧ Hid (∀ m, m < k → D[m]? ≠ some (a, b)) ∧ Hid (Below w.heap.size w wr ∧ Row wr w.heap.size 26 [.int .i64 a, .int .i64 b])) (fun i _ => D.length - (intOf i).toNat)
  case atStart => exact ⟨0, rfl, Nat.zero_le _, Lib.hid (fun m h => absurd h (by omega)), Lib.hid ⟨HB0.out, RP.out⟩⟩
  case round =>
    obtain ⟨k, rfl, hk, HN, HW⟩ := hrel
    by_cases hlt : k < D.length
    · obtain ⟨⟨c, d⟩, hp⟩ : ∃ p, D[k]? = some p := ⟨_, List.getElem?_eq_getElem hlt⟩
      obtain ⟨b1, f1, rfl, hb1, q1⟩ := (HA.out.below HW.out.1).at (by omega)
      obtain ⟨c0, c1⟩ := q1 k _ hp
      have HM := Lib.hid hp
      have hbP := (Below.refl wr.heap.size wr).alloc (Nat.le_refl _) (.cells #[.int .i64 c, .int .i64 d] 26)
      have HW2 := Lib.hid (And.intro (HW.out.1.trans (hbP.mono HW.out.1.size)) (HW.out.2.below hbP HW.out.2.lt))
      have r0 := HW2.out.2.cell (i := 0) (v := .int .i64 a) (by rfl)
      have r1 := HW2.out.2.cell (i := 1) (v := .int .i64 b) (by rfl)
      dsimp only at c0 c1
      have HSN : Hid ((a, b) ≠ (c, d) → ∀ m, m < k + 1 → D[m]? ≠ some (a, b)) := Lib.hid (by
        intro h m hm he
        by_cases hmk : m = k
        · subst hmk
          rw [HM.out] at he
          exact h (Option.some.inj he).symm
        · exact HN.out m (by omega) he)
      clear hp hbP q1 hb1
      by_cases h1 : c = a
      · subst h1
        by_cases h2 : d = b
        · subst h2
          have HE : Hid (z = (k : Int)) := Lib.hid (by rw [← HZ.out]; exact posOf_at hD HM.out)
          go_wp2
          go_ret
          exact ⟨by rw [HE.out]; rfl, HW2.out.1⟩
        · have HNX := Lib.hid (HSN.out (fun e => h2 (Prod.mk.inj e).2.symm))
          go_wp2
          go_roundw
          case rel => exact ⟨k + 1, by go_num, by omega, HNX, HW2⟩
          case measure => simp only [intOf]; omega
      · have HNX := Lib.hid (HSN.out (fun e => h1 (Prod.mk.inj e).1.symm))
        go_wp2
        go_roundw
        case rel => exact ⟨k + 1, by go_num, by omega, HNX, HW2⟩
        case measure => simp only [intOf]; omega
    · obtain rfl : k = D.length := by omega
      have HE : Hid (z = -1) := Lib.hid (by rw [← HZ.out]; exact posOf_no HN.out)
      go_wp2
      go_ret
      exact ⟨by rw [HE.out]; rfl, HW.out.1⟩
set_option maxHeartbeats 1600000 in
theorem idxPl_any (D : List (Int × Int)) (hD : D.Nodup) (oa : Option Addr) (cap : Nat) (a b : Int) (w : World) (hn : D.length ≤ 1048576) (ha : ArgPlaces w oa D) :
    Calls Tryz.prog 71 #[.slice oa D.length cap, .agg #[.int .i64 a, .int .i64 b]] w fun e w' => e = .returned (.int .i64 (posOf D (a, b))) ∧ Below w.heap.size w w' := by
  have hb0 := (Below.refl w.heap.size w).alloc (Nat.le_refl _) (.cells #[.int .i64 a, .int .i64 b] 26)
  have RP := Lib.hid (Row.new w [.int .i64 a, .int .i64 b] 26)
  have HB0 := Lib.hid hb0
  have HA := Lib.hid ha
  obtain ⟨z, hz⟩ : ∃ z, posOf D (a, b) = z := ⟨_, rfl⟩
  rw [hz]
  have HZ := Lib.hid hz
  clear hb0 ha hz
  go_enter Tryz.func71, Tryz.ntmps71
  go_wp2
  go_loopw [8] (fun i wr => ∃ k : Nat, i = .int .i64 k ∧ k ≤ D.length ∧ Hid (∀ m, m < k → D[m]? ≠ some (a, b)) ∧ Hid (Below w.heap.size w wr ∧ Row wr w.heap.size 26 [.int .i64 a, .int .i64 b])) (fun i _ => D.length - (intOf i).toNat)
  case atStart => exact ⟨0, rfl, Nat.zero_le _, Lib.hid (fun m h => absurd h (by omega)), Lib.hid ⟨HB0.out, RP.out⟩⟩
  case round =>
    obtain ⟨k, rfl, hk, HN, HW⟩ := hrel
    by_cases hlt : k < D.length
    · obtain ⟨⟨c, d⟩, hp⟩ : ∃ p, D[k]? = some p := ⟨_, List.getElem?_eq_getElem hlt⟩
      obtain ⟨b1, f1, rfl, hb1, q1⟩ := (HA.out.below HW.out.1).at (by omega)
      obtain ⟨c0, c1⟩ := q1 k _ hp
      have HM := Lib.hid hp
      have HW2 := Lib.hid (And.intro HW.out.1.drew HW.out.2.drew)
      have c0' := cell_drew c0
      have c1' := cell_drew c1
      have r0 := HW2.out.2.cell (i := 0) (v := .int .i64 a) (by rfl)
      have r1 := HW2.out.2.cell (i := 1) (v := .int .i64 b) (by rfl)
      dsimp only at c0' c1'
      have HSN : Hid ((a, b) ≠ (c, d) → ∀ m, m < k + 1 → D[m]? ≠ some (a, b)) := Lib.hid (by
        intro h m hm he
        by_cases hmk : m = k
        · subst hmk
          rw [HM.out] at he
          exact h (Option.some.inj he).symm
        · exact HN.out m (by omega) he)
      clear hp q1 hb1 c0 c1
      by_cases h1 : a = c
      · subst h1
        by_cases h2 : b = d
        · subst h2
          have HE : Hid (z = (k : Int)) := Lib.hid (by rw [← HZ.out]; exact posOf_at hD HM.out)
          go_wp2
          go_region
          all_goals go_wp2
          all_goals go_ret
          all_goals exact ⟨by rw [HE.out]; rfl, HW2.out.1⟩
        · have HNX := Lib.hid (HSN.out (fun e => h2 (Prod.mk.inj e).2))
          have e1 : (b == d) = false := by simpa using h2
          go_wp2
          go_region
          all_goals go_wp2
          all_goals go_roundw
          all_goals first
            | (case rel => exact ⟨k + 1, by go_num, by omega, HNX, HW2⟩)
            | (case measure => simp only [intOf]; omega)
      · have HNX := Lib.hid (HSN.out (fun e => h1 (Prod.mk.inj e).1))
        have e1 : (a == c) = false := by simpa using h1
        go_wp2
        go_region
        all_goals go_wp2
        all_goals go_roundw
        all_goals first
          | (case rel => exact ⟨k + 1, by go_num, by omega, HNX, HW2⟩)
          | (case measure => simp only [intOf]; omega)
    · obtain rfl : k = D.length := by omega
      have HE : Hid (z = -1) := Lib.hid (by rw [← HZ.out]; exact posOf_no HN.out)
      go_wp2
      go_ret
      exact ⟨by rw [HE.out]; rfl, HW.out.1⟩
theorem letter_one {m : Nat} (h : m < 26) : (⟨#[97, 98, 99, 100, 101, 102, 103, 104, 105, 106, 107, 108, 109, 110, 111, 112, 113, 114, 115, 116, 117, 118, 119, 120, 121, 122]⟩ : ByteArray).extract m (m + 1) = txtN [m] := by
  have e : ((List.range 26).all fun n => ((⟨#[97, 98, 99, 100, 101, 102, 103, 104, 105, 106, 107, 108, 109, 110, 111, 112, 113, 114, 115, 116, 117, 118, 119, 120, 121, 122]⟩ : ByteArray).extract n (n + 1)).data.toList == (txtN [n]).data.toList) = true := by decide +kernel
  rw [List.all_eq_true] at e
  have h1 := e m (List.mem_range.2 (by omega))
  exact ByteArray.ext (Array.ext' (by simpa using h1))
theorem txtN_snoc (l : List Nat) (m : Nat) : txtN l ++ txtN [m] = txtN (l ++ [m]) := by
  apply ByteArray.ext
  apply Array.ext'
  rw [ByteArray.data_append, Array.toList_append, txtN_list, txtN_list, txtN_list, List.map_append]
set_option maxHeartbeats 1600000 in
theorem l10Shared_any (n i j : Nat) (hi : i < n) (hj : j < n) (hne : i ≠ j) (h25 : n ≤ 25) (w : World) :
    Calls Tryz.prog 81 #[.int .i64 (n : Int), .int .i64 (i : Int), .int .i64 (j : Int)] w fun e w' => e = .returned (.string (txtN (pairL n i j))) ∧ w' = w := by
  have HG := Lib.hid (fun k (hk : k < n) => pairL_get (i := i) (j := j) hk)
  have HL := Lib.hid (pairL_length n i j)
  obtain ⟨lo, hlo⟩ : ∃ lo, min i j = lo := ⟨_, rfl⟩
  obtain ⟨hi', hhi⟩ : ∃ h, max i j = h := ⟨_, rfl⟩
  rw [hlo, hhi] at HG
  generalize pairL n i j = L at *
  have hlow : lo < n := by omega
  rcases Nat.lt_or_gt_of_ne hne with h | h
  · obtain rfl : lo = i := by omega
    obtain rfl : hi' = j := by omega
    have h1 : (lo : Int) < (hi' : Int) := by omega
    have h2 : ¬ (hi' : Int) < (lo : Int) := by omega
    clear hlo hhi hne h
    go_enter Tryz.func81, Tryz.ntmps81
    go_wp2
    go_loopw [7, 10] (fun v i wr => ∃ k : Nat, v = .string (txtN (L.take k)) ∧ i = .int .i64 k ∧ k ≤ n ∧ wr = w) (fun _ i _ => n - (intOf i).toNat)
    case atStart => exact ⟨0, rfl, rfl, Nat.zero_le _, rfl⟩
    case round =>
      obtain ⟨k, rfl, rfl, hk, rfl⟩ := hrel
      by_cases hlt : k < n
      · by_cases hm : k = hi'
        · subst hm
          have hnx : txtN (L.take k) ++ txtN [lo] = txtN (L.take (k + 1)) := by
            have hg := HG.out k hlt
            rw [if_pos rfl] at hg
            rw [txtN_snoc, List.take_add_one, hg]
            rfl
          have hl1 := letter_one (m := lo) (by omega)
          have hov : ¬ 9223372036854775807 < (txtN (L.take k)).size + (txtN [lo]).size := by rw [txtN_size, txtN_size, List.length_take, List.length_singleton]; omega
          have e1 : ((k : Int) == (k : Int)) = true := by simp
          have hw1 : IntKind.i64.wrap ((lo : Int) + 1) = (lo : Int) + 1 := wrap_small _ (by omega) (by omega)
          have hs1 : (lo : Int) + 1 ≤ 26 := by omega
          have hs2 : (lo : Int) ≤ (lo : Int) + 1 := by omega
          have hs3 : (0 : Int) ≤ (lo : Int) := by omega
          have ht1 : ((lo : Int) + 1).toNat = lo + 1 := by omega
          go_wp2
          go_roundw
          case rel => exact ⟨k + 1, rfl, by go_num, by omega, by first | rfl | trivial⟩
          case measure => simp only [intOf]; omega
        · have hnx : txtN (L.take k) ++ txtN [k] = txtN (L.take (k + 1)) := by
            have hg := HG.out k hlt
            rw [if_neg hm] at hg
            rw [txtN_snoc, List.take_add_one, hg]
            rfl
          have hl1 := letter_one (m := k) (by omega)
          have hov : ¬ 9223372036854775807 < (txtN (L.take k)).size + (txtN [k]).size := by rw [txtN_size, txtN_size, List.length_take, List.length_singleton]; omega
          have e1 : ((k : Int) == (hi' : Int)) = false := by rw [beq_eq_false_iff_ne]; omega
          have hw1 : IntKind.i64.wrap ((k : Int) + 1) = (k : Int) + 1 := wrap_small _ (by omega) (by omega)
          have hs1 : (k : Int) + 1 ≤ 26 := by omega
          have hs2 : (k : Int) ≤ (k : Int) + 1 := by omega
          have hs3 : (0 : Int) ≤ (k : Int) := by omega
          have ht1 : ((k : Int) + 1).toNat = k + 1 := by omega
          go_wp2
          go_roundw
          case rel => exact ⟨k + 1, rfl, by go_num, by omega, by first | rfl | trivial⟩
          case measure => simp only [intOf]; omega
      · obtain rfl : k = n := by omega
        have hfin : txtN (L.take k) = txtN L := by rw [List.take_of_length_le (by rw [HL.out]; exact Nat.le_refl _)]
        go_wp2
        go_ret
        exact ⟨by rw [hfin]; rfl, rfl⟩
  · obtain rfl : lo = j := by omega
    obtain rfl : hi' = i := by omega
    have h1 : (lo : Int) < (hi' : Int) := by omega
    have h2 : ¬ (hi' : Int) < (lo : Int) := by omega
    clear hlo hhi hne h
    go_enter Tryz.func81, Tryz.ntmps81
    go_wp2
    go_loopw [7, 10] (fun v i wr => ∃ k : Nat, v = .string (txtN (L.take k)) ∧ i = .int .i64 k ∧ k ≤ n ∧ wr = w) (fun _ i _ => n - (intOf i).toNat)
    case atStart => exact ⟨0, rfl, rfl, Nat.zero_le _, rfl⟩
    case round =>
      obtain ⟨k, rfl, rfl, hk, rfl⟩ := hrel
      by_cases hlt : k < n
      · by_cases hm : k = hi'
        · subst hm
          have hnx : txtN (L.take k) ++ txtN [lo] = txtN (L.take (k + 1)) := by
            have hg := HG.out k hlt
            rw [if_pos rfl] at hg
            rw [txtN_snoc, List.take_add_one, hg]
            rfl
          have hl1 := letter_one (m := lo) (by omega)
          have hov : ¬ 9223372036854775807 < (txtN (L.take k)).size + (txtN [lo]).size := by rw [txtN_size, txtN_size, List.length_take, List.length_singleton]; omega
          have e1 : ((k : Int) == (k : Int)) = true := by simp
          have hw1 : IntKind.i64.wrap ((lo : Int) + 1) = (lo : Int) + 1 := wrap_small _ (by omega) (by omega)
          have hs1 : (lo : Int) + 1 ≤ 26 := by omega
          have hs2 : (lo : Int) ≤ (lo : Int) + 1 := by omega
          have hs3 : (0 : Int) ≤ (lo : Int) := by omega
          have ht1 : ((lo : Int) + 1).toNat = lo + 1 := by omega
          go_wp2
          go_roundw
          case rel => exact ⟨k + 1, rfl, by go_num, by omega, by first | rfl | trivial⟩
          case measure => simp only [intOf]; omega
        · have hnx : txtN (L.take k) ++ txtN [k] = txtN (L.take (k + 1)) := by
            have hg := HG.out k hlt
            rw [if_neg hm] at hg
            rw [txtN_snoc, List.take_add_one, hg]
            rfl
          have hl1 := letter_one (m := k) (by omega)
          have hov : ¬ 9223372036854775807 < (txtN (L.take k)).size + (txtN [k]).size := by rw [txtN_size, txtN_size, List.length_take, List.length_singleton]; omega
          have e1 : ((k : Int) == (hi' : Int)) = false := by rw [beq_eq_false_iff_ne]; omega
          have hw1 : IntKind.i64.wrap ((k : Int) + 1) = (k : Int) + 1 := wrap_small _ (by omega) (by omega)
          have hs1 : (k : Int) + 1 ≤ 26 := by omega
          have hs2 : (k : Int) ≤ (k : Int) + 1 := by omega
          have hs3 : (0 : Int) ≤ (k : Int) := by omega
          have ht1 : ((k : Int) + 1).toNat = k + 1 := by omega
          go_wp2
          go_roundw
          case rel => exact ⟨k + 1, rfl, by go_num, by omega, by first | rfl | trivial⟩
          case measure => simp only [intOf]; omega
      · obtain rfl : k = n := by omega
        have hfin : txtN (L.take k) = txtN L := by rw [List.take_of_length_le (by rw [HL.out]; exact Nat.le_refl _)]
        go_wp2
        go_ret
        exact ⟨by rw [hfin]; rfl, rfl⟩
end Go.Proofs.YtjogfagjcpcihaaGreatDoor
namespace Go.Proofs.YtjogfagjcpcihaaGreatDoor
open Go Go.RowKit Go.Sort
/-- Two declarations can share a name. -/
def ShareP (ss : List Sc) (p q : Int × Int) : Prop := (Valid ss ∧ Clear ss) ∧ (dclP ss).length ≤ 25 ∧ p ∈ dclP ss ∧ q ∈ dclP ss ∧ p ≠ q ∧ goodN ss (pairL (dclP ss).length (posOf (dclP ss) p).toNat (posOf (dclP ss) q).toNat)
theorem pos_nat {D : List (Int × Int)} {p : Int × Int} (h : p ∈ D) : ∃ i : Nat, posOf D p = (i : Int) ∧ i < D.length ∧ D[i]? = some p := by
  have h0 := posOf_mem h
  have h1 := posOf_range D p
  have h2 := posOf_get h0
  exact ⟨(posOf D p).toNat, by omega, by omega, h2⟩
set_option maxRecDepth 100000 in
set_option maxHeartbeats 4000000 in
theorem implShare_any (ss : List Sc) (hF : Fair ss) (oa : Option Addr) (cap : Nat) (a b c d : Int) (w : World) (hc : HoldsScopes w oa ss) (hE : FewErrs w) :
    Calls Tryz.prog 28 #[.agg #[.slice oa ss.length cap], .agg #[.int .i64 a, .int .i64 b], .agg #[.int .i64 c, .int .i64 d]] w fun e w' => ∃ ok, e = .returned (.bool ok) ∧ (ok = true ↔ ShareP ss (a, b) (c, d)) ∧ Below w.heap.size w w' := by
  have hb0 := (((Below.refl w.heap.size w).alloc (Nat.le_refl _) (.cells #[.slice oa ss.length cap] 33)).alloc (by simp) (.cells #[.int .i64 a, .int .i64 b] 26)).alloc (by simp; omega) (.cells #[.int .i64 c, .int .i64 d] 26)
  have R1 := ((Row.new w [.slice oa ss.length cap] 33).alloc (.cells #[.int .i64 a, .int .i64 b] 26)).alloc (.cells #[.int .i64 c, .int .i64 d] 26)
  have R2 := (Row.new (w.alloc (.cells #[.slice oa ss.length cap] 33)) [.int .i64 a, .int .i64 b] 26).alloc (.cells #[.int .i64 c, .int .i64 d] 26)
  have R3 := Row.new ((w.alloc (.cells #[.slice oa ss.length cap] 33)).alloc (.cells #[.int .i64 a, .int .i64 b] 26)) [.int .i64 c, .int .i64 d] 26
  rw [World.size_alloc] at R2
  rw [World.size_alloc, World.size_alloc] at R3
  have R2 := Lib.hid R2
  have R3 := Lib.hid R3
  have g1 := R1.cell (i := 0) (v := .slice oa ss.length cap) (by rfl)
  have C := Lib.hid (nameableUpTo_any ss hF oa cap 25 _ (hc.below hb0 (Nat.le_refl _)) (hE.at hb0))
  have HB := Lib.hid hb0
  have HF := Lib.hid hF
  have HE := Lib.hid hE
  clear hb0 hF hc hE R1
  go_enter Tryz.func28, Tryz.ntmps28
  go_wp2_with fail
  refine C.out.mono ?_
  rintro e w1 (⟨hn, ⟨tp, p, rfl⟩, hb1⟩ | ⟨hle, N, od, cd, rfl, hN, hb1⟩)
  · have HN : Hid (¬ ShareP ss (a, b) (c, d)) := Lib.hid (fun h => hn ⟨h.1, h.2.1⟩)
    have HB1 := Lib.hid (HB.out.trans (hb1.mono HB.out.size))
    clear hb1 hn g1
    go_wp2
    go_ret
    exact ⟨false, rfl, ⟨fun h => (by cases h), fun h => absurd h HN.out⟩, HB1.out⟩
  · have HB1 := Lib.hid (HB.out.trans (hb1.mono HB.out.size))
    have HLE := Lib.hid hle
    have HNB := Lib.hid hN
    have S2 := R2.out.below hb1 R2.out.lt
    have S3 := R3.out.below hb1 R3.out.lt
    have r0 : ∀ d' os, (grow (redrawn w1 d') os).cell? ⟨w.heap.size + 1, 0, none⟩ = some (.int .i64 a) := fun d' os => cell_regrown (S2.cell (i := 0) (v := .int .i64 a) (by rfl)) d' os
    have r1 : ∀ d' os, (grow (redrawn w1 d') os).cell? ⟨w.heap.size + 1, 1, none⟩ = some (.int .i64 b) := fun d' os => cell_regrown (S2.cell (i := 1) (v := .int .i64 b) (by rfl)) d' os
    have r2 : ∀ d' os, (grow (redrawn w1 d') os).cell? ⟨w.heap.size + 1 + 1, 0, none⟩ = some (.int .i64 c) := fun d' os => cell_regrown (S3.cell (i := 0) (v := .int .i64 c) (by rfl)) d' os
    have r3 : ∀ d' os, (grow (redrawn w1 d') os).cell? ⟨w.heap.size + 1 + 1, 1, none⟩ = some (.int .i64 d) := fun d' os => cell_regrown (S3.cell (i := 1) (v := .int .i64 d) (by rfl)) d' os
    have r4 : ∀ d' os, (grow (redrawn w1 d') os).cell? ⟨N, 31, none⟩ = some (.slice od (dclP ss).length cd) := fun d' os => cell_regrown (hN.box.cell nbL_dcl) d' os
    have D1 : ∀ d' os, Calls Tryz.prog 71 #[.slice od (dclP ss).length cd, .agg #[.int .i64 a, .int .i64 b]] (grow (redrawn w1 d') os) fun e w'' => e = .returned (.int .i64 (posOf (dclP ss) (a, b))) ∧ ∃ q : Regrown, w'' = grow (redrawn w1 q.d) q.os :=
      fun d' os => Calls.regrown_of (idxPl_any (dclP ss) (dcl_nodup ss) od cd a b _ (by omega) (HNB.out.dcls.below (below_regrown w1 d' os)))
    have D2 : ∀ d' os, Calls Tryz.prog 71 #[.slice od (dclP ss).length cd, .agg #[.int .i64 c, .int .i64 d]] (grow (redrawn w1 d') os) fun e w'' => e = .returned (.int .i64 (posOf (dclP ss) (c, d))) ∧ ∃ q : Regrown, w'' = grow (redrawn w1 q.d) q.os :=
      fun d' os => Calls.regrown_of (idxPl_any (dclP ss) (dcl_nodup ss) od cd c d _ (by omega) (HNB.out.dcls.below (below_regrown w1 d' os)))
    clear hb1 hN g1 S2 S3
    go_wp2
    refine wp_region_quiet_below (by kernel_rfl) (by kernel_rfl) ?_
    repeat (first | go_big_quiet_step (with_reducible first | exact D1 _ _ | exact D2 _ _) | quiet_step (with_reducible first | exact D1 _ _ | exact D2 _ _))
    refine wpQuiet_nil ?_
    intro _ hw'
    obtain ⟨⟨dq, osq⟩, hw''⟩ := hw'
    subst hw''
    have X6 := Lib.hid (below_regrown w1 dq osq)
    have HB2 := Lib.hid (HB1.out.trans (X6.out.mono HB1.out.size))
    have HN2 := Lib.hid (HNB.out.below X6.out)
    clear D1 D2 r0 r1 r2 r3 r4
    generalize Sort.grow (redrawn w1 dq) osq = w2 at *
    by_cases hp : (a, b) ∈ dclP ss
    · obtain ⟨i, hi, hil, hiD⟩ := pos_nat hp
      have HSI : Hid ((posOf (dclP ss) (a, b)).toNat = i) := Lib.hid (by omega)
      have HPD := Lib.hid hp
      rw [hi]
      have e1 : ((i : Int) == -1) = false := by rw [beq_eq_false_iff_ne]; omega
      have e1' : ((i : Int) != -1) = true := by rw [bne_iff_ne]; omega
      by_cases hq : (c, d) ∈ dclP ss
      · obtain ⟨j, hj, hjl, hjD⟩ := pos_nat hq
        have HSJ : Hid ((posOf (dclP ss) (c, d)).toNat = j) := Lib.hid (by omega)
        have HQD := Lib.hid hq
        rw [hj]
        have e2 : ((j : Int) == -1) = false := by rw [beq_eq_false_iff_ne]; omega
        have e2' : ((j : Int) != -1) = true := by rw [bne_iff_ne]; omega
        by_cases hij : i = j
        · have HN : Hid (¬ ShareP ss (a, b) (c, d)) := Lib.hid (fun h => h.2.2.2.2.1 (by rw [hij, hjD] at hiD; exact (Option.some.inj hiD).symm))
          have e3 : ((i : Int) == (j : Int)) = true := by simp [hij]
          have e3' : ((i : Int) != (j : Int)) = false := by simp [hij]
          clear hi hj hiD hjD hp hq hij
          go_wp2
          go_ret
          exact ⟨false, rfl, ⟨fun h => (by cases h), fun h => absurd h HN.out⟩, HB2.out⟩
        · have HNE : Hid ((a, b) ≠ (c, d)) := Lib.hid (fun h => hij (by have := posOf_at (dcl_nodup ss) hiD; rw [h] at this; omega))
          have e3 : ((i : Int) == (j : Int)) = false := by rw [beq_eq_false_iff_ne]; omega
          have e3' : ((i : Int) != (j : Int)) = true := by rw [bne_iff_ne]; omega
          have C3 := Lib.hid (canShare_any ss HF.out oa od cap cd N i j hil hjl hij HLE.out w2 HN2.out (HE.out.at HB2.out).nmg)
          clear hi hj hiD hjD hp hq hij
          go_wp2_with fail
          refine C3.out.mono ?_
          rintro e w3 ⟨rfl, hb3⟩
          have HB3 := Lib.hid (HB2.out.trans (hb3.mono HB2.out.size))
          clear hb3
          go_wp2
          go_ret
          refine ⟨_, rfl, ?_, HB3.out⟩
          rw [decide_eq_true_iff]
          unfold ShareP
          rw [HSI.out, HSJ.out]
          exact ⟨fun h => ⟨HN2.out.ok, HLE.out, HPD.out, HQD.out, HNE.out, h⟩, fun h => h.2.2.2.2.2⟩
      · have HN : Hid (¬ ShareP ss (a, b) (c, d)) := Lib.hid (fun h => hq h.2.2.2.1)
        rw [posOf_not hq]
        clear hi hiD hp hq
        go_wp2
        go_ret
        exact ⟨false, rfl, ⟨fun h => (by cases h), fun h => absurd h HN.out⟩, HB2.out⟩
    · have HN : Hid (¬ ShareP ss (a, b) (c, d)) := Lib.hid (fun h => hp h.2.2.1)
      rw [posOf_not hp]
      clear hp
      go_wp2
      go_ret
      exact ⟨false, rfl, ⟨fun h => (by cases h), fun h => absurd h HN.out⟩, HB2.out⟩
end Go.Proofs.YtjogfagjcpcihaaGreatDoor
namespace Go.Proofs.YtjogfagjcpcihaaGreatDoor
open Go Go.RowKit
theorem chg_all {ss tt : List Sc} : chgA ss tt = [] ↔ ∀ q ∈ placed 0 ss, meanIt ss q = meanAt tt (q.1 : Int) (q.2.1 : Int) := by
  unfold chgA filtL
  rw [List.map_eq_nil_iff, List.filter_eq_nil_iff]
  refine ⟨fun h q hq => by simpa using h q hq, fun h q hq => by simpa using h q hq⟩
set_option maxRecDepth 100000 in
set_option maxHeartbeats 8000000 in
theorem l9Good_any (ss : List Sc) (hF : Fair ss) (oa om : Option Addr) (cap cm : Nat) (names : ByteArray) (hok : nmgOk ss names) (w : World) (hc : HoldsScopes w oa ss) (hm : HoldsInts w om (mntL ss (placed 0 ss))) :
    Calls Tryz.prog 79 #[.agg #[.slice oa ss.length cap], .slice om (mntL ss (placed 0 ss)).length cm, .string names] w fun e w' => e = .returned (.bool (decide (chgA ss (nmgG ss names) = []))) ∧ Below w.heap.size w w' := by
  obtain ⟨q0, hq0⟩ : ∃ b, decide (chgA ss (nmgG ss names) = []) = b := ⟨_, rfl⟩
  rw [hq0]
  have HQ0 : Hid (q0 = true ↔ chgA ss (nmgG ss names) = []) := Lib.hid (by rw [← hq0]; simp)
  clear hq0
  have hv := hok.1.1
  have h30 := placed_bound 0 ss 6 5 hv.count.2 hv.five
  have hb0 := (Below.refl w.heap.size w).alloc (Nat.le_refl _) (.cells #[.slice oa ss.length cap] 33)
  have R1 := Lib.hid (Row.new w [.slice oa ss.length cap] 33)
  have g1 := R1.out.cell (i := 0) (v := .slice oa ss.length cap) (by rfl)
  have C1 := Lib.hid (l9Put_any ss hF oa om cap cm names hok _ (hc.below hb0 (Nat.le_refl _)) (hm.below hb0))
  have HB := Lib.hid hb0
  have HF := Lib.hid hF
  have HC := Lib.hid hc
  have HM := Lib.hid hm
  have HOK := Lib.hid hok
  have HV := Lib.hid hv
  have HTF := Lib.hid (And.intro hok.valid (nmgOk.fair hF hok).fits)
  have HL30 := Lib.hid h30
  have hst : ∀ i j x, (i, j, x) ∈ placed 0 ss → (i, j, renIt (nmgF ss names) i j x) ∈ placed 0 (nmgG ss names) := fun i j x h => placed_ren h
  have HST := Lib.hid hst
  generalize nmgG ss names = tt at *
  clear hb0 hF hc hm hok hv hst h30
  go_enter Tryz.func79, Tryz.ntmps79
  go_wp2_with fail
  refine C1.out.mono ?_
  rintro e w1 ⟨v, hs, rfl, hO, hb1⟩
  obtain ⟨ov, cv, rfl, -⟩ := hO.holds
  have hbN := (Below.refl w1.heap.size w1).alloc (Nat.le_refl _) (.cells #[.slice ov tt.length cv] 33)
  have hb2 := hb1.trans (hbN.mono hb1.size)
  have HB2 := Lib.hid (HB.out.trans (hb2.mono HB.out.size))
  have RH := Lib.hid (Row.new w1 [.slice ov tt.length cv] 33)
  have RG := Lib.hid (R1.out.below hb2 R1.out.lt)
  have HT := Lib.hid (hO.below hbN).holdsS
  have g2 := RG.out.cell (i := 0) (v := .slice oa ss.length cap) (by rfl)
  have C2 := Lib.hid (l1Places_any ss HV.out.count.2 HV.out.five oa cap 1 _ (HC.out.below HB2.out (Nat.le_refl _)))
  clear hO hb1 hbN hb2 g1
  go_wp2_with fail
  refine C2.out.mono ?_
  rintro e w3 ⟨vl, rfl, hl, hb3⟩
  rw [show plsP ss 1 = dclP ss from rfl] at hl
  obtain ⟨ol, cl, rfl, hal⟩ := argPlaces_of_owns hl
  have HB3 := Lib.hid (HB2.out.trans (hb3.mono HB2.out.size))
  have RG3 := Lib.hid (RG.out.below hb3 RG.out.lt)
  have RH3 := Lib.hid (RH.out.below hb3 RH.out.lt)
  have HT3 := Lib.hid (HT.out.below hb3 (Nat.le_refl _))
  have HAL := Lib.hid hal
  have g3 := RG3.out.cell (i := 0) (v := .slice oa ss.length cap) (by rfl)
  have C3 := Lib.hid (l4Items_any ss (by have := HV.out.count.2; omega) (fun s hs => by have := HV.out.five s hs; omega) (by have := HL30.out; omega) oa cap _ (HC.out.below HB3.out (Nat.le_refl _)))
  clear hl hal hb3 g2
  go_wp2_with fail
  refine C3.out.mono ?_
  rintro e w4 ⟨vt, rfl, htl, hb4⟩
  obtain ⟨ot, ct, rfl, hat⟩ := argPlaces_of_owns htl
  have HB4 := Lib.hid (HB3.out.trans (hb4.mono HB3.out.size))
  have RH4 := Lib.hid (RH3.out.below hb4 RH3.out.lt)
  have HT4 := Lib.hid (HT3.out.below hb4 (Nat.le_refl _))
  have HAL4 := Lib.hid (HAL.out.below hb4)
  have HAT := Lib.hid hat
  have HM4 := Lib.hid (HM.out.below HB4.out)
  have HLN : Hid ((plsAll (placed 0 ss)).length = (placed 0 ss).length) := Lib.hid (plsAll_length _)
  have hln : (plsAll (placed 0 ss)).length ≤ 30 := by rw [plsAll_length]; exact HL30.out
  have hld : (dclP ss).length ≤ 30 := by
    have h1 := plsOf_length 1 (placed 0 ss)
    have h2 := HL30.out
    unfold dclP plsP
    omega
  clear htl hat hb4 g3
  go_wp2
  go_loopw [21] (fun i wr => ∃ k : Nat, i = .int .i64 k ∧ k ≤ (plsAll (placed 0 ss)).length ∧ Hid (Below w4.heap.size w4 wr ∧ ∀ m q, m < k → (placed 0 ss)[m]? = some q → meanIt ss q = meanAt tt (q.1 : Int) (q.2.1 : Int))) (fun i _ => (plsAll (placed 0 ss)).length - (intOf i).toNat)
  case atStart => exact ⟨0, rfl, Nat.zero_le _, Lib.hid ⟨Below.refl _ _, fun m q hm => absurd hm (by omega)⟩⟩
  case round =>
    obtain ⟨k, rfl, hk, hP⟩ := hrel
    by_cases hlt : k < (plsAll (placed 0 ss)).length
    · obtain ⟨⟨i, j, x⟩, hqk⟩ : ∃ q, (placed 0 ss)[k]? = some q := ⟨_, List.getElem?_eq_getElem (by rw [HLN.out] at hlt; exact hlt)⟩
      have hqm := List.mem_of_getElem? hqk
      obtain ⟨b5, f5, rfl, hb5, q5⟩ := (HAT.out.below hP.out.1).at (by omega)
      obtain ⟨r0, r1⟩ := q5 k ((i : Int), (j : Int)) (plsAll_at hqk)
      have hba := (Below.refl wr.heap.size wr).alloc (Nat.le_refl _) (.cells #[.int .i64 (i : Int), .int .i64 (j : Int)] 26)
      have HBA := Lib.hid (hP.out.1.trans (hba.mono hP.out.1.size))
      have h4 := (RH4.out.below HBA.out RH4.out.lt).cell (i := 0) (v := .slice ov tt.length cv) (by rfl)
      have RPB := Lib.hid (Row.new wr [.int .i64 (i : Int), .int .i64 (j : Int)] 26)
      have a0 := RPB.out.cell (i := 0) (v := .int .i64 (i : Int)) (by rfl)
      have a1 := RPB.out.cell (i := 1) (v := .int .i64 (j : Int)) (by rfl)
      have HQK := Lib.hid hqk
      have HQM := Lib.hid hqm
      have HQ2 := Lib.hid (HST.out i j x hqm)
      have C4 := Lib.hid (specResolve_any tt HTF.out.1 HTF.out.2 ov cv HQ2.out _ (HT4.out.below HBA.out (Nat.le_refl _)))
      have HMA : Hid (meanAt tt (i : Int) (j : Int) = meanIt tt (i, j, renIt (nmgF ss names) i j x)) := Lib.hid (meanAt_of HQ2.out)
      have HML := Lib.hid (meanIt_length HTF.out.1 (i, j, renIt (nmgF ss names) i j x))
      generalize meanIt tt (i, j, renIt (nmgF ss names) i j x) = ml at *
      clear hqk hqm hba q5
      go_wp2_with fail
      refine C4.out.mono ?_
      rintro e w6 ⟨vm, rfl, hml, hb6⟩
      obtain ⟨o6, c6, rfl, ha6⟩ := argPlaces_of_owns hml
      have HB6 := Lib.hid (HBA.out.trans (hb6.mono HBA.out.size))
      have HA6 := Lib.hid ha6
      have hcl := HOK.out.1.2 _ HQM.out
      have hmk := mnt_at HQK.out
      obtain ⟨mb, mf, rfl, hmb, mq⟩ : ∃ b f, om = some ⟨b, f, none⟩ ∧ b < w4.heap.size ∧ ∀ a y, (mntL ss (placed 0 ss))[a]? = some y → w4.cell? ⟨b, f + a, none⟩ = some (.int .i64 y) := by
        rcases HM4.out with h | h
        · rw [h] at hmk; simp at hmk
        · exact h
      have hkm : k < (mntL ss (placed 0 ss)).length := (List.getElem?_eq_some_iff.1 hmk).1
      have m0 := (World.cell?_of_block (a := ⟨mb, mf + k, none⟩) (HB6.out.block mb hmb)).trans (mq k _ hmk)
      have HBAD : Hid (meanIt ss (i, j, x) ≠ ml → q0 = false) := Lib.hid (fun h => by
        cases hq : q0 with
        | false => rfl
        | true => exact absurd ((chg_all.1 (HQ0.out.1 hq) _ HQM.out).trans HMA.out) h)
      have HGO : Hid (meanIt ss (i, j, x) = ml → ∀ m q, m < k + 1 → (placed 0 ss)[m]? = some q → meanIt ss q = meanAt tt (q.1 : Int) (q.2.1 : Int)) := Lib.hid (fun h m q hm hq => by
        by_cases he : m = k
        · subst he
          rw [HQK.out] at hq
          cases hq
          rw [h, ← HMA.out]
        · exact hP.out.2 m q (by omega) hq)
      have HDR : Hid (∀ (W : World) (q : Nat), World.drewN w6 q = W → Below w4.heap.size w4 W) := Lib.hid (fun W q e => by
        subst e
        exact below_drewN HB6.out q)
      have hMD := mean_dcl HV.out HQM.out
      clear hb6 hml ha6 mq hmb a0 a1 r0 r1 h4
      cases hme : meanIt ss (i, j, x) with
      | nil =>
        rw [hme] at hmk m0
        have HG0 : Hid (ml = [] → ∀ m q, m < k + 1 → (placed 0 ss)[m]? = some q → meanIt ss q = meanAt tt (q.1 : Int) (q.2.1 : Int)) := Lib.hid (fun h => HGO.out (by rw [hme, h]))
        have HB0 : Hid (ml ≠ [] → q0 = false) := Lib.hid (fun h => HBAD.out (by rw [hme]; exact fun e => h e.symm))
        have m1 : w6.cell? ⟨mb, mf + k, none⟩ = some (.int .i64 (-1)) := m0
        clear m0 hme hMD hmk
        by_cases h0 : ml.length = 0
        · have HN := Lib.hid (HG0.out (List.eq_nil_of_length_eq_zero h0))
          have e0 : decide ((0 : Int) < (ml.length : Int)) = false := decide_eq_false (by omega)
          have e0' : decide (0 < ml.length) = false := decide_eq_false (by omega)
          have e1 : ((ml.length : Int) == 1) = false := by rw [beq_eq_false_iff_ne]; omega
          clear h0 hcl
          go_wp2
          go_quiet (fail)
          generalize hWD : World.drewN _ _ = wD
          have HBD := Lib.hid (HDR.out _ _ hWD)
          clear hWD m1
          go_wp2
          go_roundw
          case rel => exact ⟨k + 1, by go_num, by omega, Lib.hid ⟨HBD.out, HN.out⟩⟩
          case measure => simp only [intOf]; omega
        · have HN := Lib.hid (HB0.out (fun e => h0 (by rw [e]; rfl)))
          have e0 : decide ((0 : Int) < (ml.length : Int)) = true := decide_eq_true (by omega)
          have e0' : decide (0 < ml.length) = true := decide_eq_true (by omega)
          clear h0 hcl
          go_wp2
          go_quiet (fail)
          generalize hWD : World.drewN _ _ = wD
          have HBD := Lib.hid (HDR.out _ _ hWD)
          clear hWD m1
          go_wp2
          go_ret
          exact ⟨by rw [HN.out]; rfl, HB4.out.trans (HBD.out.mono HB4.out.size)⟩
      | cons p r =>
        rw [hme] at hmk m0 hcl hMD
        obtain rfl : r = [] := by
          cases r with
          | nil => rfl
          | cons a b => simp at hcl
        have hpD := hMD p (List.mem_singleton.2 rfl)
        have hp0 := posOf_mem hpD
        have hpr := posOf_range (dclP ss) p
        have hpg := posOf_get hp0
        obtain ⟨d, hd⟩ : ∃ d : Nat, posOf (dclP ss) p = (d : Int) := ⟨_, (Int.toNat_of_nonneg hp0).symm⟩
        have m1 : w6.cell? ⟨mb, mf + k, none⟩ = some (.int .i64 (d : Int)) := by rw [← hd]; exact m0
        rw [hd] at hp0 hpr hpg
        have hdl : d < (dclP ss).length := by omega
        obtain ⟨a, b⟩ := p
        obtain ⟨lb, lf, rfl, hlb, lq⟩ := (HAL4.out.below HB6.out).at (by omega)
        obtain ⟨l0, l1⟩ := lq d (a, b) (by simpa using hpg)
        have HG0 : Hid (ml = [(a, b)] → ∀ m q, m < k + 1 → (placed 0 ss)[m]? = some q → meanIt ss q = meanAt tt (q.1 : Int) (q.2.1 : Int)) := Lib.hid (fun h => HGO.out (by rw [hme, h]))
        have HB0 : Hid (ml ≠ [(a, b)] → q0 = false) := Lib.hid (fun h => HBAD.out (by rw [hme]; exact fun e => h e.symm))
        have d0 : decide ((d : Int) < 0) = false := by simp
        have d1 : decide ((0 : Int) ≤ (d : Int)) = true := by simp
        have d1' : decide ((d : Int) ≥ 0) = true := by simp
        have d2 : (d : Int) < ((dclP ss).length : Int) := by omega
        clear m0 hme hMD hmk hpD hp0 hpr hpg hd lq hlb hcl
        by_cases h1 : ml.length = 1
        · obtain ⟨⟨c, e⟩, hp⟩ := List.length_eq_one_iff.1 h1
          obtain ⟨b7, f7, rfl, hb7, q7⟩ := HA6.out.at (by omega)
          obtain ⟨u0, u1⟩ := q7 0 (c, e) (by rw [hp]; rfl)
          simp only [Nat.zero_mul, Nat.add_zero] at u0 u1
          have HPE := Lib.hid hp
          have e1 : ((ml.length : Int) == 1) = true := by rw [h1]; rfl
          have e1' : ((ml.length : Int) != 1) = false := by rw [h1]; rfl
          have e2 : (0 : Int) < (ml.length : Int) := by omega
          clear hp h1 q7 hb7
          by_cases hca : c = a
          · subst hca
            by_cases heb : e = b
            · subst heb
              have HN := Lib.hid (HG0.out HPE.out)
              go_wp2
              go_quiet (fail)
              generalize hWD : World.drewN _ _ = wD
              have HBD := Lib.hid (HDR.out _ _ hWD)
              clear hWD m1 u0 u1 l0 l1
              go_wp2
              go_roundw
              case rel => exact ⟨k + 1, by go_num, by omega, Lib.hid ⟨HBD.out, HN.out⟩⟩
              case measure => simp only [intOf]; omega
            · have HN := Lib.hid (HB0.out (fun h => by rw [HPE.out] at h; cases h; exact heb rfl))
              have e3 : (e == b) = false := by simpa using heb
              clear heb
              go_wp2
              go_quiet (fail)
              generalize hWD : World.drewN _ _ = wD
              have HBD := Lib.hid (HDR.out _ _ hWD)
              clear hWD m1 u0 u1 l0 l1
              go_wp2
              go_ret
              exact ⟨by rw [HN.out]; rfl, HB4.out.trans (HBD.out.mono HB4.out.size)⟩
          · have HN := Lib.hid (HB0.out (fun h => by rw [HPE.out] at h; cases h; exact hca rfl))
            have e3 : (c == a) = false := by simpa using hca
            clear hca
            go_wp2
            go_quiet (fail)
            generalize hWD : World.drewN _ _ = wD
            have HBD := Lib.hid (HDR.out _ _ hWD)
            clear hWD m1 u0 u1 l0 l1
            go_wp2
            go_ret
            exact ⟨by rw [HN.out]; rfl, HB4.out.trans (HBD.out.mono HB4.out.size)⟩
        · have HN := Lib.hid (HB0.out (fun h => h1 (by rw [h]; rfl)))
          have e1 : ((ml.length : Int) == 1) = false := by rw [beq_eq_false_iff_ne]; omega
          have e1' : ((ml.length : Int) != 1) = true := by rw [bne_iff_ne]; omega
          clear h1
          go_wp2
          go_quiet (fail)
          generalize hWD : World.drewN _ _ = wD
          have HBD := Lib.hid (HDR.out _ _ hWD)
          clear hWD m1
          go_wp2
          go_ret
          exact ⟨by rw [HN.out]; rfl, HB4.out.trans (HBD.out.mono HB4.out.size)⟩
    · obtain rfl : k = (plsAll (placed 0 ss)).length := by omega
      have HE : Hid (q0 = true) := Lib.hid (HQ0.out.2 (chg_all.2 fun q hq => by
        obtain ⟨m, hm⟩ := List.mem_iff_getElem?.1 hq
        have := (List.getElem?_eq_some_iff.1 hm).1
        exact hP.out.2 m q (by rw [HLN.out]; omega) hm))
      go_wp2
      go_ret
      exact ⟨by rw [HE.out]; rfl, HB4.out.trans (hP.out.1.mono HB4.out.size)⟩
end Go.Proofs.YtjogfagjcpcihaaGreatDoor
namespace Go.Proofs.YtjogfagjcpcihaaGreatDoor
open Go Go.RowKit
set_option maxRecDepth 100000 in
set_option maxHeartbeats 1600000 in
theorem l1PlacesW_any (ss : List Sc) (hn6 : ss.length ≤ 1048576) (hm5 : ∀ s ∈ ss, s.items.length ≤ 1048576) (hpw : (placed 0 ss).length ≤ 1048576) (oa : Option Addr) (cap : Nat) (kind : Int) (w : World) (hc : HoldsScopes w oa ss) :
    Calls Tryz.prog 75 #[.agg #[.slice oa ss.length cap], .int .i64 kind] w (PlsGot (plsP ss kind) w) := by
  have hb0 := ((Below.refl w.heap.size w).alloc (Nat.le_refl _) (.cells #[.slice oa ss.length cap] 33)).alloc (by simp) (.cells #[] 26)
  have hR0 := (Row.new w [.slice oa ss.length cap] 33).alloc (.cells #[] 26)
  have hown0 : ((w.alloc (.cells #[.slice oa ss.length cap] 33)).alloc (.cells #[] 26)).ownsRow w.heap.size 26 2 (.slice (some ⟨w.heap.size + 1, 0, none⟩) 0 0) 0 [] := by
    have h0 := World.ownsRow_made (base := w.heap.size) (e := 26) (size := 2) (w.alloc (.cells #[.slice oa ss.length cap] 33)) #[] 0 (by simp) (by unfold maxLen; omega) rfl
    rw [World.size_alloc] at h0
    exact h0
  have HP0 : Hid (PlsAt w ((w.alloc (.cells #[.slice oa ss.length cap] 33)).alloc (.cells #[] 26)) oa cap ss.length (.slice (some ⟨w.heap.size + 1, 0, none⟩) 0 0) []) := Lib.hid ⟨hR0, hown0, hb0⟩
  have HC := Lib.hid hc
  have HM := Lib.hid hm5
  have g00 := hR0.cell (i := 0) (by rfl)
  clear hc hm5 hb0 hR0 hown0
  go_enter Tryz.func75, Tryz.ntmps75
  go_wp2
  go_loopw [5, 14] (fun v i wr => ∃ k : Nat, i = .int .i64 k ∧ k ≤ ss.length ∧ Hid (PlsAt w wr oa cap ss.length v (plsOf kind (uptoP ss k 0)))) (fun _ i _ => ss.length - (intOf i).toNat)
  case atStart => exact ⟨0, rfl, Nat.zero_le _, Lib.hid (by rw [uptoP_start]; exact HP0.out)⟩
  case round =>
    obtain ⟨k, rfl, hk, hP⟩ := hrel
    by_cases hlt : k < ss.length
    · obtain ⟨s, hs⟩ : ∃ s, ss[k]? = some s := ⟨_, List.getElem?_eq_getElem hlt⟩
      obtain ⟨bb, off, rfl, hbb, hcell⟩ := HC.out.at (by omega)
      obtain ⟨oi, ci, a0, a1, hci⟩ := hcell k s hs
      have hil := HM.out s (List.mem_of_getElem? hs)
      have b0 := (hP.out.below.cell (p := ⟨bb, off + k * 2, none⟩) hbb).trans a0
      have b1 := (hP.out.below.cell (p := ⟨bb, off + k * 2 + 1, none⟩) hbb).trans a1
      have HS := Lib.hid hs
      have HI := Lib.hid hci
      have hbx := (Below.refl wr.heap.size wr).alloc (Nat.le_refl _) (.cells #[.int .i64 s.parent, .slice oi s.items.length ci] 156)
      have HP1 := Lib.hid (hP.out.step hbx)
      have hwr := hP.out.below.size
      clear hs hcell hci a0 a1 hbx
      go_wp2
      go_loopw [5, 22] (fun v i wr => ∃ j : Nat, i = .int .i64 j ∧ j ≤ s.items.length ∧ Hid (PlsAt w wr (some ⟨bb, off, none⟩) cap ss.length v (plsOf kind (uptoP ss k j)))) (fun _ i _ => s.items.length - (intOf i).toNat)
      case atStart => exact ⟨0, rfl, Nat.zero_le _, HP1⟩
      case round =>
        obtain ⟨j, rfl, hj, hP2⟩ := hrel
        by_cases hlt2 : j < s.items.length
        · obtain ⟨x, hx⟩ : ∃ x, s.items[j]? = some x := ⟨_, List.getElem?_eq_getElem hlt2⟩
          obtain ⟨b2, o2, rfl, hb2, hcell2⟩ := HI.out.at (by omega)
          obtain ⟨x0, x1, x2⟩ := hcell2 j x hx
          have y0 := (hP2.out.below.cell (p := ⟨b2, o2 + j * 3, none⟩) hb2).trans x0
          have y1 := (hP2.out.below.cell (p := ⟨b2, o2 + j * 3 + 1, none⟩) hb2).trans x1
          have y2 := (hP2.out.below.cell (p := ⟨b2, o2 + j * 3 + 2, none⟩) hb2).trans x2
          have hbx := (Below.refl wr.heap.size wr).alloc (Nat.le_refl _) (.cells #[.int .i64 x.kind, .string x.name, .int .i64 x.scope] 37)
          have HP3 := Lib.hid (hP2.out.step hbx)
          have hpl := Nat.le_trans (plsOf_length kind (uptoP ss k j)) (Nat.le_trans (uptoP_prefix (j := j) HS.out).length_le hpw)
          have HST := Lib.hid (plsOf_snoc kind (uptoP ss k j) (k, j, x))
          have HNX := Lib.hid (uptoP_next HS.out hx)
          clear hx hcell2 x0 x1 x2 hbx
          by_cases he : x.kind = kind
          · have hq : (x.kind == kind) = true := by simpa using he
            have HE : Hid (plsOf kind (uptoP ss k (j + 1)) = plsOf kind (uptoP ss k j) ++ [((k : Int), (j : Int))]) := Lib.hid (by rw [HNX.out, HST.out, if_pos he])
            generalize hpe : plsOf kind (uptoP ss k j) = pre at hpl
            rw [hpe] at HP3 HE
            have hrow3 := HP3.out.row
            obtain ⟨i0, hi0, hz0, hz1, hz2⟩ := info_parts infoPl
            have hbs3 := HP3.out.below.size
            have hbs2 := hP2.out.below.size
            clear hpe he
            go_wp2_with (at_builtin; refine wpList_append_own _ rfl _ _ 23 rfl w.heap.size 26 i0 (.agg #[.int .i64 0, .int .i64 0]) 2 16 Tryz.underlying23 hi0 hz0 hz1 hz2 rfl (by decide) _ _ _ rfl (hrow3.alloc _) ⟨wr.heap.size + 1, 0, none⟩ 1 1 [.int .i64 (k : Int), .int .i64 (j : Int)] rfl rfl ?c1 ?c2 ?c3 ?c4 ?c5 ?_)
            all_goals try (case c1 => exact cells_new2 _ _ _ _)
            all_goals try (case c2 => first | (exact ⟨rfl, rfl⟩) | (intro u hu; simp only [List.mem_cons, List.mem_nil_iff, or_false] at hu; rcases hu with rfl | rfl <;> rfl))
            all_goals try (case c3 => unfold maxLen; omega)
            all_goals try (case c4 => omega)
            all_goals try (case c5 => first | omega | (simp only [World.size_alloc]; omega) | (simp; omega))
            intro v' w' hown' hgrow _
            have HP4 : Hid (PlsAt w w' (some ⟨bb, off, none⟩) cap ss.length v' (plsOf kind (uptoP ss k (j + 1)))) := Lib.hid {
              box := (HP3.out.box.alloc (.cells #[.int .i64 (k : Int), .int .i64 (j : Int)] 26)).grown hgrow (ownsRow_ne2 HP3.out.box (by decide) HP3.out.row)
              row := by rw [HE.out, List.length_append, placeCells_snoc]; exact hown'
              below := HP3.out.below.trans (below_append2 HP3.out.row hgrow (Nat.le_refl w.heap.size) hbs3) }
            clear hown' hgrow hrow3
            go_wp2
            go_roundw
            case rel => exact ⟨j + 1, by go_num, by omega, HP4⟩
            case measure => simp only [intOf]; omega
          · have hq : (x.kind == kind) = false := by simpa using he
            have HE : Hid (plsOf kind (uptoP ss k (j + 1)) = plsOf kind (uptoP ss k j)) := Lib.hid (by rw [HNX.out, HST.out, if_neg he, List.append_nil])
            clear he
            go_wp2
            go_roundw
            case rel => exact ⟨j + 1, by go_num, by omega, by rw [HE.out]; exact HP3⟩
            case measure => simp only [intOf]; omega
        · obtain rfl : j = s.items.length := by omega
          have HP2 : Hid (PlsAt w wr (some ⟨bb, off, none⟩) cap ss.length _ (plsOf kind (uptoP ss (k + 1) 0))) := Lib.hid (by have := hP2.out; rw [uptoP_scope HS.out] at this; exact this)
          go_wp2
          go_roundw
          case rel => exact ⟨k + 1, by go_num, by omega, HP2⟩
          case measure => simp only [intOf]; omega
    · obtain rfl : k = ss.length := by omega
      have HE := Lib.hid (uptoP_all ss)
      go_wp2
      go_ret
      exact ⟨_, rfl, by have := hP.out.row; rw [HE.out] at this; exact this, hP.out.below⟩

end Go.Proofs.YtjogfagjcpcihaaGreatDoor
namespace Go.Proofs.YtjogfagjcpcihaaGreatDoor
open Go Go.RowKit Go.Sort
set_option maxRecDepth 100000 in
set_option maxHeartbeats 8000000 in
theorem specShare_any (ss : List Sc) (hF : Fair ss) (hpw : (placed 0 ss).length ≤ 1048576) (oa : Option Addr) (cap : Nat) (a b c d : Int) (w : World) (hc : HoldsScopes w oa ss) :
    Calls Tryz.prog 31 #[.agg #[.slice oa ss.length cap], .agg #[.int .i64 a, .int .i64 b], .agg #[.int .i64 c, .int .i64 d]] w fun e w' => ∃ ok, e = .returned (.bool ok) ∧ (ok = true ↔ ShareP ss (a, b) (c, d)) ∧ Below w.heap.size w w' := by
  have hb0 := (((Below.refl w.heap.size w).alloc (Nat.le_refl _) (.cells #[.slice oa ss.length cap] 33)).alloc (by simp) (.cells #[.int .i64 a, .int .i64 b] 26)).alloc (by simp; omega) (.cells #[.int .i64 c, .int .i64 d] 26)
  have R1 := Lib.hid (((Row.new w [.slice oa ss.length cap] 33).alloc (.cells #[.int .i64 a, .int .i64 b] 26)).alloc (.cells #[.int .i64 c, .int .i64 d] 26))
  have R2 := (Row.new (w.alloc (.cells #[.slice oa ss.length cap] 33)) [.int .i64 a, .int .i64 b] 26).alloc (.cells #[.int .i64 c, .int .i64 d] 26)
  have R3 := Row.new ((w.alloc (.cells #[.slice oa ss.length cap] 33)).alloc (.cells #[.int .i64 a, .int .i64 b] 26)) [.int .i64 c, .int .i64 d] 26
  rw [World.size_alloc] at R2
  rw [World.size_alloc, World.size_alloc] at R3
  have R2 := Lib.hid R2
  have R3 := Lib.hid R3
  have g1 := R1.out.cell (i := 0) (v := .slice oa ss.length cap) (by rfl)
  have C := Lib.hid (l1PlacesW_any ss hF.count (fun s hs => hF.items s hs) hpw oa cap 1 _ (hc.below hb0 (Nat.le_refl _)))
  have HB := Lib.hid hb0
  have HF := Lib.hid hF
  have HC := Lib.hid hc
  have HDN : Hid ((dclP ss).length ≤ 1048576) := Lib.hid (by
    have h1 := plsOf_length 1 (placed 0 ss)
    unfold dclP plsP
    omega)
  clear hb0 hF hc hpw
  go_enter Tryz.func31, Tryz.ntmps31
  go_wp2_with fail
  refine C.out.mono ?_
  rintro e w1 ⟨vl, rfl, hl, hb1⟩
  rw [show plsP ss 1 = dclP ss from rfl] at hl
  obtain ⟨od, cd, rfl, hal⟩ := argPlaces_of_owns hl
  have HAL := Lib.hid hal
  have HB1 := Lib.hid (HB.out.trans (hb1.mono HB.out.size))
  have R1a := Lib.hid (R1.out.below hb1 R1.out.lt)
  have S2 := R2.out.below hb1 R2.out.lt
  have S3 := R3.out.below hb1 R3.out.lt
  have hdn := HDN.out
  have r0 : ∀ d' os, (grow (redrawn w1 d') os).cell? ⟨w.heap.size + 1, 0, none⟩ = some (.int .i64 a) := fun d' os => cell_regrown (S2.cell (i := 0) (v := .int .i64 a) (by rfl)) d' os
  have r1 : ∀ d' os, (grow (redrawn w1 d') os).cell? ⟨w.heap.size + 1, 1, none⟩ = some (.int .i64 b) := fun d' os => cell_regrown (S2.cell (i := 1) (v := .int .i64 b) (by rfl)) d' os
  have r2 : ∀ d' os, (grow (redrawn w1 d') os).cell? ⟨w.heap.size + 1 + 1, 0, none⟩ = some (.int .i64 c) := fun d' os => cell_regrown (S3.cell (i := 0) (v := .int .i64 c) (by rfl)) d' os
  have r3 : ∀ d' os, (grow (redrawn w1 d') os).cell? ⟨w.heap.size + 1 + 1, 1, none⟩ = some (.int .i64 d) := fun d' os => cell_regrown (S3.cell (i := 1) (v := .int .i64 d) (by rfl)) d' os
  have D1 : ∀ d' os, Calls Tryz.prog 78 #[.slice od (dclP ss).length cd, .agg #[.int .i64 a, .int .i64 b]] (grow (redrawn w1 d') os) fun e w'' => e = .returned (.int .i64 (posOf (dclP ss) (a, b))) ∧ ∃ q : Regrown, w'' = grow (redrawn w1 q.d) q.os :=
    fun d' os => Calls.regrown_of (l10Index_any (dclP ss) (dcl_nodup ss) od cd a b _ (by omega) (HAL.out.below (below_regrown w1 d' os)))
  have D2 : ∀ d' os, Calls Tryz.prog 78 #[.slice od (dclP ss).length cd, .agg #[.int .i64 c, .int .i64 d]] (grow (redrawn w1 d') os) fun e w'' => e = .returned (.int .i64 (posOf (dclP ss) (c, d))) ∧ ∃ q : Regrown, w'' = grow (redrawn w1 q.d) q.os :=
    fun d' os => Calls.regrown_of (l10Index_any (dclP ss) (dcl_nodup ss) od cd c d _ (by omega) (HAL.out.below (below_regrown w1 d' os)))
  clear hb1 hl hal g1 S2 S3 hdn
  go_wp2
  refine wp_region_quiet_below (by kernel_rfl) (by kernel_rfl) ?_
  repeat (first | go_big_quiet_step (with_reducible first | exact D1 _ _ | exact D2 _ _) | quiet_step (with_reducible first | exact D1 _ _ | exact D2 _ _))
  refine wpQuiet_nil ?_
  intro _ hw'
  obtain ⟨⟨dq, osq⟩, hw''⟩ := hw'
  subst hw''
  have X6 := Lib.hid (below_regrown w1 dq osq)
  have HB2 := Lib.hid (HB1.out.trans (X6.out.mono HB1.out.size))
  have R1b := Lib.hid (R1a.out.below X6.out R1a.out.lt)
  have HAL2 := Lib.hid (HAL.out.below X6.out)
  clear D1 D2 r0 r1 r2 r3
  generalize Sort.grow (redrawn w1 dq) osq = w2 at *
  obtain ⟨cl, hcl⟩ : ∃ cl : Bool, (cl = true ↔ Valid ss ∧ Clear ss) := by
    by_cases h : Valid ss ∧ Clear ss
    · exact ⟨true, fun _ => h, fun _ => rfl⟩
    · exact ⟨false, fun e => (by cases e), fun e => absurd e h⟩
  have HCLR := Lib.hid hcl
  have q0 : ∀ d' os, (grow (redrawn w2 d') os).cell? ⟨w.heap.size, 0, none⟩ = some (.slice oa ss.length cap) := fun d' os => cell_regrown (R1b.out.cell (i := 0) (v := .slice oa ss.length cap) (by rfl)) d' os
  have HD1 : Hid (∀ d' os, Calls Tryz.prog 76 #[.agg #[.slice oa ss.length cap]] (grow (redrawn w2 d') os) fun e w'' => e = .returned (.bool cl) ∧ ∃ q : Regrown, w'' = grow (redrawn w2 q.d) q.os) := Lib.hid
    fun d' os => Calls.regrown_of ((l9Clear_any ss HF.out oa cap _ (HC.out.below (HB2.out.trans ((below_regrown w2 d' os).mono HB2.out.size)) (Nat.le_refl _))).mono fun e w' h => by
      obtain ⟨b', rfl, h1, h2⟩ := h
      exact ⟨by rw [Bool.eq_iff_iff.2 (h1.trans HCLR.out.symm)], h2⟩)
  clear hcl
  cases cl
  · have HN : Hid (¬ ShareP ss (a, b) (c, d)) := Lib.hid (fun h => by have := HCLR.out.2 h.1; cases this)
    go_wp2
    refine wp_region_quiet_below (by kernel_rfl) (by kernel_rfl) ?_
    have D1 := HD1.out
    repeat (first | go_big_quiet_step (with_reducible first | exact D1 _ _) | quiet_step (with_reducible first | exact D1 _ _))
    refine wpQuiet_nil ?_
    intro _ hw'
    obtain ⟨⟨dq2, osq2⟩, hw''⟩ := hw'
    subst hw''
    have HBX := Lib.hid (HB2.out.trans ((below_regrown w2 dq2 osq2).mono HB2.out.size))
    clear D1 q0
    generalize Sort.grow (redrawn w2 dq2) osq2 = w3 at *
    go_wp2
    go_ret
    exact ⟨false, rfl, ⟨fun h => (by cases h), fun h => absurd h HN.out⟩, HBX.out⟩
  · by_cases hp : (a, b) ∈ dclP ss
    · obtain ⟨i, hi, hil, hiD⟩ := pos_nat hp
      have HSI : Hid ((posOf (dclP ss) (a, b)).toNat = i) := Lib.hid (by omega)
      have HPD := Lib.hid hp
      rw [hi]
      have i1 : decide ((0 : Int) ≤ (i : Int)) = true := decide_eq_true (by omega)
      have i2 : (0 : Int) ≤ (i : Int) := by omega
      by_cases hq : (c, d) ∈ dclP ss
      · obtain ⟨j, hj, hjl, hjD⟩ := pos_nat hq
        have HSJ : Hid ((posOf (dclP ss) (c, d)).toNat = j) := Lib.hid (by omega)
        have HQD := Lib.hid hq
        rw [hj]
        have j1 : decide ((0 : Int) ≤ (j : Int)) = true := decide_eq_true (by omega)
        have j2 : (0 : Int) ≤ (j : Int) := by omega
        by_cases hij : i = j
        · have HN : Hid (¬ ShareP ss (a, b) (c, d)) := Lib.hid (fun h => h.2.2.2.2.1 (by rw [hij, hjD] at hiD; exact (Option.some.inj hiD).symm))
          have e3 : ((i : Int) == (j : Int)) = true := by simp [hij]
          have e3' : ((i : Int) != (j : Int)) = false := by simp [hij]
          clear hi hj hiD hjD hp hq hij
          go_wp2
          refine wp_region_quiet_below (by kernel_rfl) (by kernel_rfl) ?_
          have D1 := HD1.out
          repeat (first | go_big_quiet_step (with_reducible first | exact D1 _ _) | quiet_step (with_reducible first | exact D1 _ _))
          refine wpQuiet_nil ?_
          intro _ hw'
          obtain ⟨⟨dq2, osq2⟩, hw''⟩ := hw'
          subst hw''
          have HBX := Lib.hid (HB2.out.trans ((below_regrown w2 dq2 osq2).mono HB2.out.size))
          clear D1 q0
          generalize Sort.grow (redrawn w2 dq2) osq2 = w3 at *
          go_wp2
          go_ret
          exact ⟨false, rfl, ⟨fun h => (by cases h), fun h => absurd h HN.out⟩, HBX.out⟩
        · have HNE : Hid ((a, b) ≠ (c, d)) := Lib.hid (fun h => hij (by have := posOf_at (dcl_nodup ss) hiD; rw [h] at this; omega))
          have HIJ := Lib.hid hij
          have HIL := Lib.hid (And.intro hil hjl)
          have e3 : ((i : Int) == (j : Int)) = false := by rw [beq_eq_false_iff_ne]; omega
          have e3' : ((i : Int) != (j : Int)) = true := by rw [bne_iff_ne]; omega
          by_cases hle : (dclP ss).length ≤ 25
          · have HLE := Lib.hid hle
            have l1 : decide (((dclP ss).length : Int) ≤ 25) = true := decide_eq_true (by omega)
            have l1' : decide ((dclP ss).length ≤ 25) = true := decide_eq_true hle
            have HOKC := Lib.hid (HCLR.out.1 rfl)
            clear hi hj hiD hjD hp hq hij hil hjl hle
            go_wp2
            refine wp_region_kept (S := fun w' => w'.cell? ⟨w.heap.size, 0, none⟩ = some (.slice oa ss.length cap)) 31 (by kernel_rfl) ?_
            have hS0 := cell_drew (R1b.out.cell (i := 0) (v := .slice oa ss.length cap) (by rfl))
            have HD0 := Lib.hid ((Below.refl w2.heap.size w2).drew)
            have HS0 := Lib.hid hS0
            refine KeptAny.tk (v := ?_) 0 hS0 (fun w' hw' => ?_) ?_
            rotate_left
            · (go_simp; try with_reducible rfl)
            clear hS0 q0
            refine KeptAny.one (i := 1) (by kernel_rfl) rfl (by kernel_rfl) (fun K hK => ?_)
            go_simp
            refine ⟨trivial, ?_⟩
            refine ((callsIn_wide (n := 5)).2 (l9Clear_any ss HF.out oa cap _ (HC.out.below (HB2.out.trans (HD0.out.mono HB2.out.size)) (Nat.le_refl _)))).mono ?_
            rintro e wa ⟨b', rfl, hb', hba⟩
            obtain rfl : b' = true := hb'.2 HOKC.out
            have HXA := Lib.hid (HD0.out.trans (hba.mono HD0.out.size))
            have hS0 := cell_grow hba HS0.out
            have HSA := Lib.hid hS0
            refine hK.out _ _ hS0 (fun _ => ?_)
            clear hK hb' hba
            refine KeptAny.tk (v := ?_) 2 hS0 (fun w' hw' => ?_) ?_
            rotate_left
            · (go_simp; try with_reducible rfl)
            refine KeptAny.tk (v := ?_) 3 hS0 (fun w' hw' => ?_) ?_
            rotate_left
            · (go_simp; try with_reducible rfl)
            refine KeptAny.tk (v := ?_) 4 hS0 (fun w' hw' => ?_) ?_
            rotate_left
            · (go_simp; try with_reducible rfl)
            refine KeptAny.tk (v := ?_) 5 hS0 (fun w' hw' => ?_) ?_
            rotate_left
            · (go_simp; try with_reducible rfl)
            refine KeptAny.tk (v := ?_) 6 hS0 (fun w' hw' => ?_) ?_
            rotate_left
            · (go_simp; try with_reducible rfl)
            refine KeptAny.tk (v := ?_) 7 hS0 (fun w' hw' => ?_) ?_
            rotate_left
            · (go_simp; try with_reducible rfl)
            refine KeptAny.tk (v := ?_) 8 hS0 (fun w' hw' => ?_) ?_
            rotate_left
            · (go_simp; try with_reducible rfl)
            refine KeptAny.tk (v := ?_) 9 hS0 (fun w' hw' => ?_) ?_
            rotate_left
            · (go_simp; try with_reducible rfl)
            refine KeptAny.tk (v := ?_) 10 hS0 (fun w' hw' => ?_) ?_
            rotate_left
            · (go_simp; try with_reducible rfl)
            refine KeptAny.tk (v := ?_) 11 hS0 (fun w' hw' => ?_) ?_
            rotate_left
            · (go_simp; try with_reducible rfl)
            refine KeptAny.tk (v := ?_) 12 hS0 (fun w' hw' => ?_) ?_
            rotate_left
            · (go_simp; try with_reducible rfl)
            refine KeptAny.tk (v := ?_) 13 hS0 (fun w' hw' => ?_) ?_
            rotate_left
            · (go_simp; try with_reducible rfl)
            refine KeptAny.tk (v := ?_) 14 hS0 (fun w' hw' => ?_) ?_
            rotate_left
            · (go_simp; try with_reducible rfl)
            refine KeptAny.tk (v := ?_) 15 hS0 (fun w' hw' => ?_) ?_
            rotate_left
            · (go_simp; try with_reducible rfl)
            refine KeptAny.tk (v := ?_) 16 hS0 (fun w' hw' => ?_) ?_
            rotate_left
            · (go_simp; try with_reducible rfl)
            refine KeptAny.tk (v := ?_) 17 hS0 (fun w' hw' => ?_) ?_
            rotate_left
            · (go_simp; try with_reducible rfl)
            refine KeptAny.tk (v := ?_) 18 hS0 (fun w' hw' => ?_) ?_
            rotate_left
            · (go_simp; try with_reducible rfl)
            refine KeptAny.tk (v := ?_) 19 hS0 (fun w' hw' => ?_) ?_
            rotate_left
            · (go_simp; try with_reducible rfl)
            refine KeptAny.tk (v := ?_) 20 hS0 (fun w' hw' => ?_) ?_
            rotate_left
            · (go_simp; try with_reducible rfl)
            refine KeptAny.tk (v := ?_) 21 hS0 (fun w' hw' => ?_) ?_
            rotate_left
            · (go_simp; try with_reducible rfl)
            refine KeptAny.tk (v := ?_) 22 hS0 (fun w' hw' => ?_) ?_
            rotate_left
            · (go_simp; try with_reducible rfl)
            refine KeptAny.tk (v := ?_) 24 hS0 (fun w' hw' => ?_) ?_
            rotate_left
            · (go_simp; try with_reducible rfl)
            refine KeptAny.tk (v := ?_) 25 hS0 (fun w' hw' => ?_) ?_
            rotate_left
            · (go_simp; try with_reducible rfl)
            refine KeptAny.tk (v := ?_) 26 hS0 (fun w' hw' => ?_) ?_
            rotate_left
            · (go_simp; try with_reducible rfl)
            refine KeptAny.tk (v := ?_) 27 hS0 (fun w' hw' => ?_) ?_
            rotate_left
            · (go_simp; try with_reducible rfl)
            clear hS0
            refine KeptAny.one (i := 23) (by kernel_rfl) rfl (by kernel_rfl) (fun K hK => ?_)
            go_simp
            refine ⟨trivial, ?_⟩
            refine ((callsIn_wide (n := 5)).2 (l9Meant_any ss HOKC.out.1 HF.out.fits oa cap _ (HC.out.below (HB2.out.trans (HXA.out.mono HB2.out.size)) (Nat.le_refl _)))).mono ?_
            rintro e wb ⟨vm, rfl, hm, hbb⟩
            obtain ⟨om, cm, rfl, hmi⟩ := ints_of_owns hm
            have HMI := Lib.hid hmi
            have HXB := Lib.hid (HXA.out.trans (hbb.mono HXA.out.size))
            have hSB := cell_grow hbb HSA.out
            have HSB := Lib.hid hSB
            refine hK.out _ _ hSB (fun _ => ?_)
            clear hK hm hmi hbb hSB
            refine KeptAny.one (i := 28) (by kernel_rfl) rfl (by kernel_rfl) (fun K hK => ?_)
            go_simp
            refine ⟨trivial, ?_⟩
            refine ((callsIn_wide (n := 5)).2 (l10Shared_any (dclP ss).length i j HIL.out.1 HIL.out.2 HIJ.out HLE.out wb)).mono ?_
            rintro e wc ⟨rfl, rfl⟩
            refine hK.out _ _ HSB.out (fun _ => ?_)
            clear hK
            have HOK : Hid (nmgOk ss (txtN (pairL (dclP ss).length i j))) := Lib.hid ⟨HOKC.out, by have := txtN_naming (pairL_lt HIL.out.1 HIL.out.2 HLE.out); rwa [pairL_length] at this⟩
            refine KeptAny.one (i := 29) (by kernel_rfl) rfl (by kernel_rfl) (fun K hK => ?_)
            go_simp
            refine ⟨trivial, ?_⟩
            refine ((callsIn_wide (n := 5)).2 (l9Good_any ss HF.out oa om cap cm _ HOK.out _ (HC.out.below (HB2.out.trans (HXB.out.mono HB2.out.size)) (Nat.le_refl _)) HMI.out)).mono ?_
            rintro e wd ⟨rfl, hbd⟩
            have HXD := Lib.hid (HB2.out.trans ((HXB.out.trans (hbd.mono HXB.out.size)).mono HB2.out.size))
            have hS0 := cell_grow hbd HSB.out
            refine hK.out _ _ hS0 (fun _ => ?_)
            clear hK hbd
            obtain ⟨ok, hok⟩ : ∃ ok, decide (chgA ss (nmgG ss (txtN (pairL (dclP ss).length i j))) = []) = ok := ⟨_, rfl⟩
            rw [hok]
            have HOKB : Hid (ok = true ↔ goodN ss (pairL (dclP ss).length i j)) := Lib.hid (by rw [← hok, decide_eq_true_iff]; rfl)
            clear hok
            refine KeptAny.tk (v := .bool ok) 30 hS0 (fun w' hw' => ?_) ?_
            · (go_simp; try with_reducible rfl)
            refine KeptAny.last (by kernel_rfl) rfl (by kernel_rfl) (fun K hK => ?_)
            go_simp
            refine hK.out _ _ ?_
            clear hK
            refine KeptAny.done (by kernel_rfl) ?_ _
            go_wp2
            go_ret
            refine ⟨_, rfl, ?_, HXD.out⟩
            refine HOKB.out.trans ?_
            unfold ShareP
            rw [HSI.out, HSJ.out]
            exact ⟨fun h => ⟨HOKC.out, HLE.out, HPD.out, HQD.out, HNE.out, h⟩, fun h => h.2.2.2.2.2⟩
          · have HN : Hid (¬ ShareP ss (a, b) (c, d)) := Lib.hid (fun h => hle h.2.1)
            have l1 : decide (((dclP ss).length : Int) ≤ 25) = false := decide_eq_false (by omega)
            have l1' : decide ((dclP ss).length ≤ 25) = false := decide_eq_false hle
            clear hi hj hiD hjD hp hq hij hle
            go_wp2
            refine wp_region_quiet_below (by kernel_rfl) (by kernel_rfl) ?_
            have D1 := HD1.out
            repeat (first | go_big_quiet_step (with_reducible first | exact D1 _ _) | quiet_step (with_reducible first | exact D1 _ _))
            refine wpQuiet_nil ?_
            intro _ hw'
            obtain ⟨⟨dq2, osq2⟩, hw''⟩ := hw'
            subst hw''
            have HBX := Lib.hid (HB2.out.trans ((below_regrown w2 dq2 osq2).mono HB2.out.size))
            clear D1 q0
            generalize Sort.grow (redrawn w2 dq2) osq2 = w3 at *
            go_wp2
            go_ret
            exact ⟨false, rfl, ⟨fun h => (by cases h), fun h => absurd h HN.out⟩, HBX.out⟩
      · have HN : Hid (¬ ShareP ss (a, b) (c, d)) := Lib.hid (fun h => hq h.2.2.2.1)
        rw [posOf_not hq]
        clear hi hiD hp hq
        go_wp2
        refine wp_region_quiet_below (by kernel_rfl) (by kernel_rfl) ?_
        have D1 := HD1.out
        repeat (first | go_big_quiet_step (with_reducible first | exact D1 _ _) | quiet_step (with_reducible first | exact D1 _ _))
        refine wpQuiet_nil ?_
        intro _ hw'
        obtain ⟨⟨dq2, osq2⟩, hw''⟩ := hw'
        subst hw''
        have HBX := Lib.hid (HB2.out.trans ((below_regrown w2 dq2 osq2).mono HB2.out.size))
        clear D1 q0
        generalize Sort.grow (redrawn w2 dq2) osq2 = w3 at *
        go_wp2
        go_ret
        exact ⟨false, rfl, ⟨fun h => (by cases h), fun h => absurd h HN.out⟩, HBX.out⟩
    · have HN : Hid (¬ ShareP ss (a, b) (c, d)) := Lib.hid (fun h => hp h.2.2.1)
      rw [posOf_not hp]
      clear hp
      go_wp2
      refine wp_region_quiet_below (by kernel_rfl) (by kernel_rfl) ?_
      have D1 := HD1.out
      repeat (first | go_big_quiet_step (with_reducible first | exact D1 _ _) | quiet_step (with_reducible first | exact D1 _ _))
      refine wpQuiet_nil ?_
      intro _ hw'
      obtain ⟨⟨dq2, osq2⟩, hw''⟩ := hw'
      subst hw''
      have HBX := Lib.hid (HB2.out.trans ((below_regrown w2 dq2 osq2).mono HB2.out.size))
      clear D1 q0
      generalize Sort.grow (redrawn w2 dq2) osq2 = w3 at *
      go_wp2
      go_ret
      exact ⟨false, rfl, ⟨fun h => (by cases h), fun h => absurd h HN.out⟩, HBX.out⟩
end Go.Proofs.YtjogfagjcpcihaaGreatDoor
