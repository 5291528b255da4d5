/-
  The walks of the laws' eqIntS, markIntS, heldIntS: lists of numbers compared, marked, and found marked. Condition: the lists' memory is their own.
-/
import Derived.Test.YtlhlcdlkilpbhaaDoorWSpecChain
namespace Go.Proofs.YtlhlcdlkilpbhaaDoor
open Go Go.RowKit
/-- A slice's cells hold these numbers. -/
def HoldsInts (w : World) (oa : Option Addr) (xs : List Int) : Prop :=
  xs = [] ∨ ∃ b off, oa = some ⟨b, off, none⟩ ∧ b < w.heap.size ∧ ∀ i x, xs[i]? = some x → w.cell? ⟨b, off + i, none⟩ = some (.int .i64 x)
theorem HoldsInts.below {w w' : World} {oa : Option Addr} {xs : List Int} (h : HoldsInts w oa xs) (hb : Below w.heap.size w w') : HoldsInts w' oa xs := by
  rcases h with h | ⟨b, off, h1, h2, h3⟩
  · exact .inl h
  · exact .inr ⟨b, off, h1, Nat.lt_of_lt_of_le h2 hb.size, fun i x hx => (hb.cell (p := ⟨b, _, none⟩) h2).trans (h3 i x hx)⟩
theorem HoldsInts.at {w : World} {oa : Option Addr} {xs : List Int} (h : HoldsInts w oa xs) (hne : 0 < xs.length) : ∃ b off, oa = some ⟨b, off, none⟩ ∧ b < w.heap.size ∧ ∀ i x, xs[i]? = some x → w.cell? ⟨b, off + i, none⟩ = some (.int .i64 x) := by
  rcases h with h | h
  · subst h; simp at hne
  · exact h
def natInts (l : List Nat) : List Int := l.map fun (m : Nat) => (m : Int)
theorem holdsInts_of_owns {w : World} {B : Nat} {v : Value} {l : List Nat} (h : w.ownsRow B 3 1 v l.length (numVals l)) : ∃ oa cap, v = .slice oa (natInts l).length cap ∧ HoldsInts w oa (natInts l) := by
  have hln : (natInts l).length = l.length := by simp [natInts]
  obtain ⟨hl, h2 | ⟨g, cap, cur, hv, hB, hh, hn, _, hs, ht⟩⟩ := h
  · refine ⟨none, 0, by rw [h2.1, hln, h2.2], .inl ?_⟩
    have := List.eq_nil_of_length_eq_zero h2.2
    rw [this]; rfl
  · refine ⟨_, cap, by rw [hln]; exact hv, .inr ⟨g, 0, rfl, (Array.getElem?_eq_some_iff.1 hh).1, fun i x hx => ?_⟩⟩
    have hil := (List.getElem?_eq_some_iff.1 hx).1
    have hx' : (numVals l)[i]? = some (.int .i64 x) := by
      unfold natInts at hx
      unfold numVals
      rw [List.getElem?_map] at hx ⊢
      cases e : l[i]? with
      | none => rw [e] at hx; cases hx
      | some m => rw [e] at hx; simp at hx; subst hx; rfl
    rw [← ht, List.getElem?_take_of_lt (by omega)] at hx'
    rw [Nat.zero_add]
    simp [World.cell?, hh]
    simpa using hx'
set_option maxRecDepth 100000 in
set_option maxHeartbeats 1600000 in
theorem eqIntS_same (xs : List Int) (o1 o2 : Option Addr) (c1 c2 : Nat) (w : World) (hn : xs.length < 2 ^ 40) (k1 : HoldsInts w o1 xs) (k2 : HoldsInts w o2 xs) :
    Calls Tryd.prog 30 #[.slice o1 xs.length c1, .slice o2 xs.length c2] w fun e w' => e = .returned (.bool true) ∧ Below w.heap.size w w' := by
  have K1 := Lib.hid k1
  have K2 := Lib.hid k2
  clear k1 k2
  go_enter Tryd.func30, Tryd.ntmps30
  go_wp2
  go_loopw [5] (fun i wr => ∃ k : Nat, i = .int .i64 k ∧ k ≤ xs.length ∧ Below w.heap.size w wr) (fun i _ => xs.length - (intOf i).toNat)
  case atStart => exact ⟨0, rfl, Nat.zero_le _, Below.refl _ _⟩
  case round =>
    obtain ⟨k, rfl, hk, hb⟩ := hrel
    by_cases hlt : k < xs.length
    · obtain ⟨x, hx⟩ : ∃ x, xs[k]? = some x := ⟨_, List.getElem?_eq_getElem hlt⟩
      obtain ⟨b1, f1, rfl, hb1, q1⟩ := K1.out.at (by omega)
      obtain ⟨b2, f2, rfl, hb2, q2⟩ := K2.out.at (by omega)
      have a0 := (hb.cell (p := ⟨b1, f1 + k, none⟩) hb1).trans (q1 k x hx)
      have d0 := (hb.cell (p := ⟨b2, f2 + k, none⟩) hb2).trans (q2 k x hx)
      clear hx q1 q2
      go_wp2
      go_region
      go_wp2
      go_roundw
      case rel => exact ⟨k + 1, by go_num, by omega, hb.drew⟩
      case measure => simp only [intOf]; omega
    · go_wp2
      go_ret
      exact ⟨rfl, hb⟩
/-- A row of numbers that is the list's own. -/
def OwnInts (w : World) (B : Nat) (oa : Option Addr) (n : Nat) : Prop := n = 0 ∨ ∃ (g : Nat) (vs : List Value), oa = some ⟨g, 0, none⟩ ∧ B ≤ g ∧ Row w g 3 vs ∧ n ≤ vs.length
/-- It holds the numbers from k on. -/
def Marked (w : World) (oa : Option Addr) (n : Nat) (k : Int) : Prop := n = 0 ∨ ∃ (g : Nat) (vs : List Value), oa = some ⟨g, 0, none⟩ ∧ Row w g 3 vs ∧ ∀ i, i < n → vs[i]? = some (.int .i64 (k + i))
theorem ownInts_of_owns {w : World} {B n : Nat} {oa : Option Addr} {cap : Nat} {xs : List Value} (h : w.ownsRow B 3 1 (.slice oa n cap) n xs) : OwnInts w B oa n := by
  obtain ⟨hl, h2 | ⟨g, cap', cur, hv, hB, hh, hn, _, hs, ht⟩⟩ := h
  · exact .inl h2.2
  · simp only [Value.slice.injEq] at hv
    obtain ⟨rfl, _, _⟩ := hv
    exact .inr ⟨g, cur.toList, rfl, hB, hh, by rw [Array.length_toList]; omega⟩
theorem OwnInts.below {w w' : World} {B n : Nat} {oa : Option Addr} (h : OwnInts w B oa n) (hb : Below w.heap.size w w') : OwnInts w' B oa n := by
  rcases h with h | ⟨g, vs, h1, h2, h3, h4⟩
  · exact .inl h
  · exact .inr ⟨g, vs, h1, h2, h3.below hb h3.lt, h4⟩
theorem Marked.below {w w' : World} {n : Nat} {oa : Option Addr} {k : Int} (h : Marked w oa n k) (hb : Below w.heap.size w w') : Marked w' oa n k := by
  rcases h with h | ⟨g, vs, h1, h3, h4⟩
  · exact .inl h
  · exact .inr ⟨g, vs, h1, h3.below hb h3.lt, h4⟩
set_option maxRecDepth 100000 in
set_option maxHeartbeats 1600000 in
theorem markIntS_any (oa : Option Addr) (n cap B : Nat) (k : Int) (w : World) (hn : n < 2 ^ 40) (h0 : 0 ≤ k) (h1 : k ≤ 2 ^ 40) (h : OwnInts w B oa n) :
    Calls Tryd.prog 31 #[.slice oa n cap, .int .i64 k] w fun e w' => e = .returned (.int .i64 (k + n)) ∧ Marked w' oa n k ∧ Below B w w' := by
  rcases h with rfl | ⟨g, vs, rfl, hg, hR, hvl⟩
  · go_enter Tryd.func31, Tryd.ntmps31
    go_wp2
    go_loopw [1, 5] (fun kv i wr => kv = .int .i64 k ∧ i = .int .i64 0 ∧ Below B w wr) (fun _ _ _ => 0)
    case atStart => exact ⟨rfl, rfl, Below.refl _ _⟩
    case round =>
      obtain ⟨rfl, rfl, hb⟩ := hrel
      go_wp2
      go_ret
      exact ⟨by simp, .inl rfl, hb⟩
  · have HR0 := Lib.hid hR
    clear hR
    go_enter Tryd.func31, Tryd.ntmps31
    go_wp2
    go_loopw [1, 5] (fun kv i wr => ∃ (j : Nat) (us : List Value), kv = .int .i64 (k + j) ∧ i = .int .i64 j ∧ j ≤ n ∧ us.length = vs.length ∧ Hid (∀ i, i < j → us[i]? = some (.int .i64 (k + i))) ∧ Row wr g 3 us ∧ Below B w wr) (fun _ i _ => n - (intOf i).toNat)
    case atStart => exact ⟨0, vs, by simp, rfl, Nat.zero_le _, rfl, Lib.hid (fun i hi => absurd hi (by omega)), HR0.out, Below.refl _ _⟩
    case round =>
      obtain ⟨j, us, rfl, rfl, hj, hul, hus, hR, hb⟩ := hrel
      by_cases hlt : j < n
      · obtain ⟨u, hu⟩ : ∃ u, us[j]? = some u := ⟨_, List.getElem?_eq_getElem (by omega)⟩
        have c0 := hR.cell hu
        have f0 := hR.frozen j
        have HRN := Lib.hid (hR.set j (.int .i64 (k + j)))
        have HBN := Lib.hid (hb.setCell (p := ⟨g, j, none⟩) hg (.int .i64 (k + j)))
        have HUS : Hid (∀ i, i < j + 1 → (us.set j (.int .i64 (k + j)))[i]? = some (.int .i64 (k + i))) := Lib.hid (fun i hi => by
          by_cases he : i = j
          · subst he; rw [List.getElem?_set_self (by omega)]
          · rw [List.getElem?_set_ne (fun e => he e.symm)]; exact hus.out i (by omega))
        have HUL : Hid ((us.set j (.int .i64 (k + j))).length = vs.length) := Lib.hid (by rw [List.length_set]; exact hul)
        clear hu hR hb hus hul
        go_wp2
        go_roundw
        case rel => exact ⟨j + 1, _, by go_num, by go_num, by omega, HUL.out, HUS, HRN.out, HBN.out⟩
        case measure => simp only [intOf]; omega
      · obtain rfl : j = n := by omega
        have HP := Lib.hid (And.intro hR hb)
        clear hR hb hul
        go_wp2
        go_ret
        exact ⟨rfl, .inr ⟨g, us, rfl, HP.out.1, hus.out⟩, HP.out.2⟩
set_option maxRecDepth 100000 in
set_option maxHeartbeats 1600000 in
theorem heldIntS_any (oa : Option Addr) (n cap : Nat) (k : Int) (w : World) (hn : n < 2 ^ 40) (h0 : 0 ≤ k) (h1 : k ≤ 2 ^ 40) (h : Marked w oa n k) :
    Calls Tryd.prog 32 #[.slice oa n cap, .int .i64 k] w fun e w' => e = .returned (.int .i64 (k + n)) ∧ Below w.heap.size w w' := by
  have H := Lib.hid h
  clear h
  go_enter Tryd.func32, Tryd.ntmps32
  go_wp2
  go_loopw [1, 5] (fun kv i wr => ∃ j : Nat, kv = .int .i64 (k + j) ∧ i = .int .i64 j ∧ j ≤ n ∧ Below w.heap.size w wr) (fun _ i _ => n - (intOf i).toNat)
  case atStart => exact ⟨0, by simp, rfl, Nat.zero_le _, Below.refl _ _⟩
  case round =>
    obtain ⟨j, rfl, rfl, hj, hb⟩ := hrel
    by_cases hlt : j < n
    · rcases H.out with h | ⟨g, vs, rfl, hR, hvs⟩
      · omega
      · have c0 := (hb.cell (p := ⟨g, j, none⟩) hR.lt).trans (hR.cell (hvs j hlt))
        have hq : ((k + (j : Int)) == (k + (j : Int))) = true := by simp
        clear hR hvs
        go_wp2
        go_roundw
        case rel => exact ⟨j + 1, by go_num, by go_num, by omega, hb⟩
        case measure => simp only [intOf]; omega
    · obtain rfl : j = n := by omega
      go_wp2
      go_ret
      exact ⟨rfl, hb⟩
end Go.Proofs.YtlhlcdlkilpbhaaDoor
