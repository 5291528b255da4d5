/-
  The walks of the laws' weighing of graphs (szItem, szItemS, szScope, szScopeS, szGraph): what is left of the bound behind the weight, or -1; only new memory is written. Condition: names, lists of items and of scopes are no longer than a machine's numbers.
-/
import Derived.Test.YtlhlcdlkilpbhaaDoorGraph
import Derived.Test.YtlhlcdlkilpbhaaDoorProg
import Derived.Lib.Hide
import Derived.Outline
import Derived.Deep.DeepCutAuto
namespace Go.Proofs.YtlhlcdlkilpbhaaDoor
open Go Go.RowKit
set_option maxRecDepth 100000 in
theorem szItem_any (x : It) (left : Int) (w : World) (hn : x.name.size ≤ 2 ^ 63 - 1) (h0 : 0 ≤ left) (h1 : left ≤ 1048576) :
    Calls Tryd.prog 111 #[.agg #[.int .i64 x.kind, .string x.name, .int .i64 x.scope], .int .i64 left] w fun e w' => e = .returned (.int .i64 (rest left x.name.size)) ∧ Below w.heap.size w w' := by
  obtain ⟨kd, nm, sc⟩ := x
  simp only at hn ⊢
  by_cases h : ((nm.size : Nat) : Int) ≤ left
  · rw [rest_pos h]
    have h2 : 0 ≤ left - ((nm.size : Nat) : Int) := by omega
    go_enter Tryd.func111, Tryd.ntmps111
    go_wp2
    go_ret
    exact ⟨rfl, (Below.refl _ _).alloc (Nat.le_refl _) _⟩
  · rw [rest_neg (by omega)]
    have h2 : left - ((nm.size : Nat) : Int) < 0 := by omega
    go_enter Tryd.func111, Tryd.ntmps111
    go_wp2
    go_ret
    exact ⟨rfl, (Below.refl _ _).alloc (Nat.le_refl _) _⟩
/-- Names and lists that a machine can hold. -/
def FitsItems (xs : List It) : Prop := xs.length ≤ 2 ^ 63 - 1 ∧ ∀ x ∈ xs, x.name.size ≤ 2 ^ 63 - 1
set_option maxRecDepth 100000 in
set_option maxHeartbeats 1600000 in
theorem szItemS_any (xs : List It) (oa : Option Addr) (cap : Nat) (left : Int) (w : World) (hf : FitsItems xs) (hc : HoldsItems w oa xs) (h0 : 0 ≤ left) (h1 : left ≤ 1048576) :
    Calls Tryd.prog 103 #[.slice oa xs.length cap, .int .i64 left] w fun e w' => e = .returned (.int .i64 (rest left (wItems xs))) ∧ Below w.heap.size w w' := by
  have hl := hf.1
  have HF := Lib.hid hf
  have HW := Lib.hid (wItems_eq xs)
  clear hf
  by_cases hbig : left < (xs.length : Int)
  · have HR := Lib.hid (rest_neg (left := left) (n := wItems xs) (by have := HW.out; omega))
    have h2 : left - (xs.length : Int) < 0 := by omega
    go_enter Tryd.func103, Tryd.ntmps103
    go_wp2
    go_ret
    exact ⟨by rw [HR.out]; rfl, Below.refl _ _⟩
  have h2 : 0 ≤ left - (xs.length : Int) := by omega
  rcases hc with rfl | ⟨b, off, rfl, hb, hc⟩
  · go_enter Tryd.func103, Tryd.ntmps103
    go_wp2
    go_loopw [1, 5] (fun l i wr => l = .int .i64 left ∧ i = .int .i64 0 ∧ Below w.heap.size w wr) (fun _ _ _ => 0)
    case atStart => exact ⟨by simp, rfl, Below.refl _ _⟩
    case round =>
      obtain ⟨rfl, rfl, hbr⟩ := hrel
      go_wp2
      go_ret
      exact ⟨by simp [rest, wItems, h0], hbr⟩
  · have HC := Lib.hid hc
    clear hc
    go_enter Tryd.func103, Tryd.ntmps103
    go_wp2
    go_loopw [1, 5] (fun l i wr => ∃ (k : Nat) (lv : Int), l = .int .i64 lv ∧ i = .int .i64 k ∧ k ≤ xs.length ∧ 0 ≤ lv ∧ lv ≤ 1048576 ∧ Hid (lv = left - (xs.length : Int) - (nItems (xs.take k) : Int)) ∧ Below w.heap.size w wr) (fun _ i _ => xs.length - (intOf i).toNat)
    case atStart => exact ⟨0, _, rfl, rfl, Nat.zero_le _, h2, by omega, Lib.hid (by simp [nItems]), Below.refl _ _⟩
    case round =>
      obtain ⟨k, lv, rfl, rfl, hk, hlv0, hlv1, hlv, hbr⟩ := hrel
      by_cases hlt : k < xs.length
      · obtain ⟨x, hx⟩ : ∃ x, xs[k]? = some x := ⟨_, List.getElem?_eq_getElem hlt⟩
        obtain ⟨k0, k1, k2⟩ := HC.out k x hx
        have c0 := (hbr.cell (p := ⟨b, off + k * 3, none⟩) hb).trans k0
        have c1 := (hbr.cell (p := ⟨b, off + k * 3 + 1, none⟩) hb).trans k1
        have c2 := (hbr.cell (p := ⟨b, off + k * 3 + 2, none⟩) hb).trans k2
        have hnm := HF.out.2 x (List.mem_of_getElem? hx)
        have HX := Lib.hid hx
        clear k0 k1 k2 hx
        go_wp2_with fail
        refine (szItem_any x lv _ hnm hlv0 hlv1).mono ?_
        rintro e w2 ⟨rfl, hb2⟩
        have hbw := hbr.trans (hb2.mono hbr.size)
        clear hb2 hbr c0 c1 c2
        by_cases hneg : lv < ((x.name.size : Nat) : Int)
        · rw [rest_neg hneg]
          have HR := Lib.hid (rest_neg (left := left) (n := wItems xs) (by have e1 := HW.out; have e2 := hlv.out; have e3 := nItems_step HX.out; have e4 := nItems_take_le xs (k + 1); omega))
          go_wp2
          go_ret
          exact ⟨by rw [HR.out]; rfl, hbw⟩
        · rw [rest_pos (by omega)]
          have h3 : 0 ≤ lv - ((x.name.size : Nat) : Int) := by omega
          go_wp2
          go_roundw
          case rel => exact ⟨k + 1, _, rfl, by go_num, by omega, h3, by omega, Lib.hid (by rw [nItems_step HX.out, hlv.out]; omega), hbw⟩
          case measure => simp only [intOf]; omega
      · obtain rfl : k = xs.length := by omega
        have HR := Lib.hid (rest_pos (left := left) (n := wItems xs) (by have e1 := HW.out; have e2 := hlv.out; rw [List.take_length] at e2; omega))
        have HV := Lib.hid (show lv = left - (wItems xs : Int) by have e1 := HW.out; have e2 := hlv.out; rw [List.take_length] at e2; omega)
        go_wp2
        go_ret
        exact ⟨by rw [HR.out, ← HV.out]; rfl, hbr⟩
set_option maxRecDepth 100000 in
theorem szScope_any (sc : Sc) (oi : Option Addr) (ci : Nat) (left : Int) (w : World) (hf : FitsItems sc.items) (hc : HoldsItems w oi sc.items) (h0 : 0 ≤ left) (h1 : left ≤ 1048576) :
    Calls Tryd.prog 85 #[.agg #[.int .i64 sc.parent, .slice oi sc.items.length ci], .int .i64 left] w fun e w' => e = .returned (.int .i64 (rest left (wItems sc.items))) ∧ Below w.heap.size w w' := by
  have hb0 := (Below.refl _ w).alloc (Nat.le_refl _) (.cells #[.int .i64 sc.parent, .slice oi sc.items.length ci] 123)
  have C := Lib.hid (szItemS_any sc.items oi ci left _ hf (hc.below hb0 (Nat.le_refl _)) h0 h1)
  clear hf hc
  by_cases h : ((wItems sc.items : Nat) : Int) ≤ left
  · rw [rest_pos h] at C ⊢
    have h2 : 0 ≤ left - ((wItems sc.items : Nat) : Int) := by omega
    go_enter Tryd.func85, Tryd.ntmps85
    go_wp2_with fail
    refine C.out.mono ?_
    rintro e w2 ⟨rfl, hb2⟩
    have hb := hb0.trans (hb2.mono hb0.size)
    go_wp2
    go_ret
    exact ⟨rfl, hb⟩
  · rw [rest_neg (by omega)] at C ⊢
    go_enter Tryd.func85, Tryd.ntmps85
    go_wp2_with fail
    refine C.out.mono ?_
    rintro e w2 ⟨rfl, hb2⟩
    have hb := hb0.trans (hb2.mono hb0.size)
    go_wp2
    go_ret
    exact ⟨rfl, hb⟩
/-- Graphs that a machine can hold. -/
def FitsScopes (ss : List Sc) : Prop := ss.length ≤ 2 ^ 63 - 1 ∧ ∀ s ∈ ss, FitsItems s.items
set_option maxRecDepth 100000 in
set_option maxHeartbeats 1600000 in
theorem szScopeS_any (xs : List Sc) (oa : Option Addr) (cap : Nat) (left : Int) (w : World) (hf : FitsScopes xs) (hc : HoldsScopes w oa xs) (h0 : 0 ≤ left) (h1 : left ≤ 1048576) :
    Calls Tryd.prog 52 #[.slice oa xs.length cap, .int .i64 left] w fun e w' => e = .returned (.int .i64 (rest left (wScopes xs))) ∧ Below w.heap.size w w' := by
  have hl := hf.1
  have HF := Lib.hid hf
  have HW := Lib.hid (wScopes_eq xs)
  clear hf
  by_cases hbig : left < (xs.length : Int)
  · have HR := Lib.hid (rest_neg (left := left) (n := wScopes xs) (by have := HW.out; omega))
    have h2 : left - (xs.length : Int) < 0 := by omega
    go_enter Tryd.func52, Tryd.ntmps52
    go_wp2
    go_ret
    exact ⟨by rw [HR.out]; rfl, Below.refl _ _⟩
  have h2 : 0 ≤ left - (xs.length : Int) := by omega
  rcases hc with rfl | ⟨b, off, rfl, hb, hc⟩
  · go_enter Tryd.func52, Tryd.ntmps52
    go_wp2
    go_loopw [1, 5] (fun l i wr => l = .int .i64 left ∧ i = .int .i64 0 ∧ Below w.heap.size w wr) (fun _ _ _ => 0)
    case atStart => exact ⟨by simp, rfl, Below.refl _ _⟩
    case round =>
      obtain ⟨rfl, rfl, hbr⟩ := hrel
      go_wp2
      go_ret
      exact ⟨by simp [rest, wScopes, h0], hbr⟩
  · have HC := Lib.hid hc
    clear hc
    go_enter Tryd.func52, Tryd.ntmps52
    go_wp2
    go_loopw [1, 5] (fun l i wr => ∃ (k : Nat) (lv : Int), l = .int .i64 lv ∧ i = .int .i64 k ∧ k ≤ xs.length ∧ 0 ≤ lv ∧ lv ≤ 1048576 ∧ Hid (lv = left - (xs.length : Int) - (nScopes (xs.take k) : Int)) ∧ Below w.heap.size w wr) (fun _ i _ => xs.length - (intOf i).toNat)
    case atStart => exact ⟨0, _, rfl, rfl, Nat.zero_le _, h2, by omega, Lib.hid (by simp [nScopes]), Below.refl _ _⟩
    case round =>
      obtain ⟨k, lv, rfl, rfl, hk, hlv0, hlv1, hlv, hbr⟩ := hrel
      by_cases hlt : k < xs.length
      · obtain ⟨x, hx⟩ : ∃ x, xs[k]? = some x := ⟨_, List.getElem?_eq_getElem hlt⟩
        obtain ⟨oi, ci, k0, k1, k2⟩ := HC.out k x hx
        have c0 := (hbr.cell (p := ⟨b, off + k * 2, none⟩) hb).trans k0
        have c1 := (hbr.cell (p := ⟨b, off + k * 2 + 1, none⟩) hb).trans k1
        have C := Lib.hid (szScope_any x oi ci lv wr (HF.out.2 x (List.mem_of_getElem? hx)) (k2.below hbr (Nat.le_refl _)) hlv0 hlv1)
        have HX := Lib.hid hx
        clear k0 k1 k2 hx
        go_wp2_with fail
        refine C.out.mono ?_
        rintro e w2 ⟨rfl, hb2⟩
        have hbw := hbr.trans (hb2.mono hbr.size)
        clear hb2 hbr c0 c1 C
        by_cases hneg : lv < ((wItems x.items : Nat) : Int)
        · rw [rest_neg hneg]
          have HR := Lib.hid (rest_neg (left := left) (n := wScopes xs) (by have e1 := HW.out; have e2 := hlv.out; have e3 := nScopes_step HX.out; have e4 := nScopes_take_le xs (k + 1); omega))
          go_wp2
          go_ret
          exact ⟨by rw [HR.out]; rfl, hbw⟩
        · rw [rest_pos (by omega)]
          have h3 : 0 ≤ lv - ((wItems x.items : Nat) : Int) := by omega
          go_wp2
          go_roundw
          case rel => exact ⟨k + 1, _, rfl, by go_num, by omega, h3, by omega, Lib.hid (by rw [nScopes_step HX.out, hlv.out]; omega), hbw⟩
          case measure => simp only [intOf]; omega
      · obtain rfl : k = xs.length := by omega
        have HR := Lib.hid (rest_pos (left := left) (n := wScopes xs) (by have e1 := HW.out; have e2 := hlv.out; rw [List.take_length] at e2; omega))
        have HV := Lib.hid (show lv = left - (wScopes xs : Int) by have e1 := HW.out; have e2 := hlv.out; rw [List.take_length] at e2; omega)
        go_wp2
        go_ret
        exact ⟨by rw [HR.out, ← HV.out]; rfl, hbr⟩
set_option maxRecDepth 100000 in
theorem szGraph_any (xs : List Sc) (oa : Option Addr) (cap : Nat) (left : Int) (w : World) (hf : FitsScopes xs) (hc : HoldsScopes w oa xs) (h0 : 0 ≤ left) (h1 : left ≤ 1048576) :
    Calls Tryd.prog 15 #[.agg #[.slice oa xs.length cap], .int .i64 left] w fun e w' => e = .returned (.int .i64 (rest left (wScopes xs))) ∧ Below w.heap.size w w' := by
  have hb0 := (Below.refl _ w).alloc (Nat.le_refl _) (.cells #[.slice oa xs.length cap] 24)
  have C := Lib.hid (szScopeS_any xs oa cap left _ hf (hc.below hb0 (Nat.le_refl _)) h0 h1)
  clear hf hc
  by_cases h : ((wScopes xs : Nat) : Int) ≤ left
  · rw [rest_pos h] at C ⊢
    have h2 : 0 ≤ left - ((wScopes xs : Nat) : Int) := by omega
    go_enter Tryd.func15, Tryd.ntmps15
    go_wp2_with fail
    refine C.out.mono ?_
    rintro e w2 ⟨rfl, hb2⟩
    have hb := hb0.trans (hb2.mono hb0.size)
    go_wp2
    go_ret
    exact ⟨rfl, hb⟩
  · rw [rest_neg (by omega)] at C ⊢
    go_enter Tryd.func15, Tryd.ntmps15
    go_wp2_with fail
    refine C.out.mono ?_
    rintro e w2 ⟨rfl, hb2⟩
    have hb := hb0.trans (hb2.mono hb0.size)
    go_wp2
    go_ret
    exact ⟨rfl, hb⟩
end Go.Proofs.YtlhlcdlkilpbhaaDoor
