/-
  The walk of the given DrawFormatNumbers: a short list of numbers of 64 bits. Condition: the code's memory holds bytes.
-/
import Derived.Test.YtjogfagjcpcihaaDoorWDrawAll
import Derived.Test.YtjogfagjcpcihaaDoorWNums
import Derived.Test.YtjogfagjcpcihaaDoorJB
namespace Go.Proofs.YtjogfagjcpcihaaDoor
open Go Go.RowKit Sg
def DrawnN (w : World) (e : Ending) (w' : World) : Prop := ∃ (ns : List Int) (oa : Option Addr) (cap : Nat), e = .returned (.slice oa ns.length cap) ∧ HoldsInts w' oa ns ∧ ns.length ≤ 10 ∧ (∀ n ∈ ns, I64 n) ∧ Below w.heap.size w w'
theorem holdsInts_of_vals {w : World} {B : Nat} {v : Value} {l : List Int} (h : w.ownsRow B 3 1 v l.length (intVals l)) : ∃ oa cap, v = .slice oa l.length cap ∧ HoldsInts w oa l := by
  obtain ⟨hl, h2 | ⟨g, cap, cur, hv, hB, hh, hn, _, hs, ht⟩⟩ := h
  · refine ⟨none, 0, by rw [h2.1, h2.2], .inl ?_⟩
    exact List.eq_nil_of_length_eq_zero h2.2
  · refine ⟨_, cap, hv, .inr ⟨g, 0, rfl, (Array.getElem?_eq_some_iff.1 hh).1, fun i x hx => ?_⟩⟩
    have hil := (List.getElem?_eq_some_iff.1 hx).1
    have hx' : (intVals l)[i]? = some (.int .i64 x) := by
      unfold intVals
      rw [List.getElem?_map, hx]
      rfl
    rw [← ht, List.getElem?_take_of_lt (by omega)] at hx'
    rw [Nat.zero_add]
    simp [World.cell?, hh]
    simpa using hx'
/-- At the head of a round. -/
structure NumRd (w1 wr : World) (r : Nat) (oa : Option Addr) (len cap P : Nat) (v : Value) (ns : List Int) : Prop where
  rd : RdAt w1 wr r oa len cap P
  row : wr.ownsRow w1.heap.size 3 1 v ns.length (intVals ns)
  all : ∀ n ∈ ns, I64 n
def numsN : List Int := [0, 1, -1, 12, 3, -9223372036854775808, 255]
theorem numsN_i64 {x : Int} (h : x ∈ numsN) : I64 x := by
  simp only [numsN, List.mem_cons, List.not_mem_nil, or_false] at h
  unfold I64
  omega
set_option maxRecDepth 100000 in
set_option maxHeartbeats 4000000 in
theorem drawNums_any {w : World} {oa : Option Addr} {len cap : Nat} (h : HoldsBytes w oa len) (hl : len ≤ 2 ^ 62) (hlc : len ≤ cap) : Calls Tryd.prog 31 #[.slice oa len cap] w (DrawnN w) := by
  have C := Lib.hid (open_any h hl hlc)
  clear h hl hlc
  go_enter Tryd.func31, Tryd.ntmps31
  go_wp2_with fail
  refine C.out.mono ?_
  rintro e w1 ⟨r, ob, n, c, rfl, hr, hrd, hb1⟩
  have HB1 := Lib.hid hb1
  have HR := Lib.hid hr
  have hbN := (Below.refl w1.heap.size w1).alloc (Nat.le_refl _) (.cells #[] 3)
  have AT := Lib.hid ((RdAt.start hrd (Nat.le_refl 0) (by omega)).step hbN)
  have C2 := Lib.hid (pick_any (hrd.below hbN) (by omega) 5 (by decide))
  have ROW := Lib.hid (World.ownsRow_made (base := w1.heap.size) (e := 3) (size := 1) w1 #[] 0 (by simp) (by unfold maxLen; omega) rfl)
  clear hr hrd hb1 hbN
  go_wp2_with fail
  refine C2.out.mono ?_
  rintro e w2 ⟨z, rfl, -, hz, hr2⟩
  have hz5 : z < 5 := by have := hz (by decide); omega
  have HW0 : Hid (NumRd w1 w2 r ob n c (0 + 1) (.slice (some ⟨w1.heap.size, 0, none⟩) 0 0) []) := Lib.hid
    ⟨AT.out.asked (Nat.le_refl 0) hr2 (by omega), ownsRow_asked ROW.out hr2.turns AT.out.lt, fun x hx => by cases hx⟩
  clear hz hr2
  go_wp2
  go_loopw [4, 10] (fun v i wr => ∃ (k : Nat) (ns : List Int), i = .int .i64 k ∧ k ≤ z ∧ ns.length = k ∧ Hid (NumRd w1 wr r ob n c (0 + 1 + k) v ns)) (fun _ i _ => z - (intOf i).toNat)
  case atStart => exact ⟨0, [], rfl, Nat.zero_le _, rfl, HW0⟩
  case round =>
    obtain ⟨k, ns, rfl, hk, hnk, HW⟩ := hrel
    by_cases hlt : k < z
    · obtain ⟨q, hq, hrd⟩ := HW.out.rd.rd
      have C3 := Lib.hid (num_new hrd (by omega) numsN (by decide) (by decide))
      have HQ := Lib.hid hq
      clear hq hrd
      go_wp2_with fail
      refine C3.out.mono ?_
      rintro e w4 ⟨x, hx, rfl, hr4⟩
      have HX := Lib.hid (numsN_i64 hx)
      have AT4 := Lib.hid (HW.out.rd.asked HQ.out hr4 (by omega))
      have hrow4 := ownsRow_asked (r := r) HW.out.row hr4.turns (by have := AT.out.lt; omega)
      obtain ⟨i0, hi0, hz0, hz1, hz2⟩ := info_parts infoInt
      clear hx hr4
      go_wp2_with (at_builtin; refine wpList_append_own _ rfl _ _ 28 rfl w1.heap.size 3 i0 (.int .i64 0) 1 8 Tryd.underlying28 hi0 hz0 hz1 hz2 rfl (by decide) _ _ _ rfl (hrow4.alloc _) ⟨w4.heap.size, 0, none⟩ 1 1 [.int .i64 x] rfl rfl ?c1 ?c2 ?c3 ?c4 ?c5 ?_)
      case c1 => exact cells_new _ _ _
      case c2 => intro u hu; simp only [List.mem_singleton] at hu; subst hu; rfl
      case c3 => unfold maxLen; omega
      case c4 => omega
      case c5 => have := AT4.out.turns.size; simp only [World.size_alloc]; omega
      · intro v' w' hown' hgrow _
        have HW5 : Hid (NumRd w1 w' r ob n c (0 + 1 + (k + 1)) v' (ns ++ [x])) := Lib.hid
          ⟨AT4.out.far (below_append hrow4 hgrow (Nat.le_refl _) AT4.out.turns.size), by rw [List.length_append, intVals_snoc, hnk]; exact hown', fun y hy => by
            rcases List.mem_append.1 hy with h | h
            · exact HW.out.all y h
            · rw [List.mem_singleton.1 h]; exact HX.out⟩
        clear hrow4 hown' hgrow
        go_wp2
        go_roundw
        case rel => exact ⟨k + 1, ns ++ [x], by go_num, by omega, by simp [hnk], HW5⟩
        case measure => simp only [intOf]; omega
    · obtain ⟨o3, c3, rfl, h3⟩ := holdsInts_of_vals HW.out.row
      have H3 := Lib.hid h3
      have HB := Lib.hid (HB1.out.trans (HW.out.rd.turns.below HR.out HR.out HB1.out.size))
      clear h3
      go_wp2
      go_ret
      exact ⟨ns, o3, c3, rfl, H3.out, by omega, HW.out.all, HB.out⟩
end Go.Proofs.YtjogfagjcpcihaaDoor
