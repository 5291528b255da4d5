/-
  The walks of the laws' weighing of graphs (szItem, szItemS, szScope, szScopeS, szGraph): what is left of the bound behind the weight, or -1; only new memory is written. Condition: names, lists of items and of scopes are no longer than a machine's numbers. The walks of the laws' copies of graphs (toItem, toItemS, toScope, toScopeS, toGraph): a graph in new memory that holds the same; only new memory is written. Condition: at most 2^20 scopes, and items in each. The walks of the laws' comparisons of graphs (eqItem, eqItemS, eqScope, eqScopeS, eqGraph): two that hold the same are told to be the same; only new memory is written. Condition: at most 2^20 scopes, and items in each.
-/
import Derived.Test.YtgehpaojbnpbcaaGreatDoorBaseZ
import Derived.Test.YtgehpaojbnpbcaaGreatDoorProg
import Derived.Lib.Hide
import Derived.Outline
import Derived.Deep.DeepCutAuto
import Derived.Deep.QuietTactic
import Derived.BigQuiet
import Derived.Lib.QuietBelow
namespace Go.Proofs.YtgehpaojbnpbcaaGreatDoor
open Go Go.RowKit
set_option maxRecDepth 100000 in
theorem szItem_any (x : It) (left : Int) (w : World) (hn : x.name.size ≤ 2 ^ 63 - 1) (h0 : 0 ≤ left) (h1 : left ≤ 1048576) :
    Calls Tryz.prog 98 #[.agg #[.int .i64 x.kind, .string x.name, .int .i64 x.scope], .int .i64 left] w fun e w' => e = .returned (.int .i64 (rest left x.name.size)) ∧ Below w.heap.size w w' := by
  obtain ⟨kd, nm, sc⟩ := x
  simp only at hn ⊢
  by_cases h : ((nm.size : Nat) : Int) ≤ left
  · rw [rest_pos h]
    have h2 : 0 ≤ left - ((nm.size : Nat) : Int) := by omega
    go_enter Tryz.func98, Tryz.ntmps98
    go_wp2
    go_ret
    exact ⟨rfl, (Below.refl _ _).alloc (Nat.le_refl _) _⟩
  · rw [rest_neg (by omega)]
    have h2 : left - ((nm.size : Nat) : Int) < 0 := by omega
    go_enter Tryz.func98, Tryz.ntmps98
    go_wp2
    go_ret
    exact ⟨rfl, (Below.refl _ _).alloc (Nat.le_refl _) _⟩
/-- Names and lists that a machine can hold. -/
def FitsItems (xs : List It) : Prop := xs.length ≤ 2 ^ 63 - 1 ∧ ∀ x ∈ xs, x.name.size ≤ 2 ^ 63 - 1
set_option maxRecDepth 100000 in
set_option maxHeartbeats 1600000 in
theorem szItemS_any (xs : List It) (oa : Option Addr) (cap : Nat) (left : Int) (w : World) (hf : FitsItems xs) (hc : HoldsItems w oa xs) (h0 : 0 ≤ left) (h1 : left ≤ 1048576) :
    Calls Tryz.prog 65 #[.slice oa xs.length cap, .int .i64 left] w fun e w' => e = .returned (.int .i64 (rest left (wItems xs))) ∧ Below w.heap.size w w' := by
  have hl := hf.1
  have HF := Lib.hid hf
  have HW := Lib.hid (wItems_eq xs)
  clear hf
  by_cases hbig : left < (xs.length : Int)
  · have HR := Lib.hid (rest_neg (left := left) (n := wItems xs) (by have := HW.out; omega))
    have h2 : left - (xs.length : Int) < 0 := by omega
    go_enter Tryz.func65, Tryz.ntmps65
    go_wp2
    go_ret
    exact ⟨by rw [HR.out]; rfl, Below.refl _ _⟩
  have h2 : 0 ≤ left - (xs.length : Int) := by omega
  rcases hc with rfl | ⟨b, off, rfl, hb, hc⟩
  · go_enter Tryz.func65, Tryz.ntmps65
    go_wp2
    go_loopw [1, 5] (fun l i wr => l = .int .i64 left ∧ i = .int .i64 0 ∧ Below w.heap.size w wr) (fun _ _ _ => 0)
    case atStart => exact ⟨by simp, rfl, Below.refl _ _⟩
    case round =>
      obtain ⟨rfl, rfl, hbr⟩ := hrel
      go_wp2
      go_ret
      exact ⟨by simp [rest, wItems, h0], hbr⟩
  · have HC := Lib.hid hc
    clear hc
    go_enter Tryz.func65, Tryz.ntmps65
    go_wp2
    go_loopw [1, 5] (fun l i wr => ∃ (k : Nat) (lv : Int), l = .int .i64 lv ∧ i = .int .i64 k ∧ k ≤ xs.length ∧ 0 ≤ lv ∧ lv ≤ 1048576 ∧ Hid (lv = left - (xs.length : Int) - (nItems (xs.take k) : Int)) ∧ Below w.heap.size w wr) (fun _ i _ => xs.length - (intOf i).toNat)
    case atStart => exact ⟨0, _, rfl, rfl, Nat.zero_le _, h2, by omega, Lib.hid (by simp [nItems]), Below.refl _ _⟩
    case round =>
      obtain ⟨k, lv, rfl, rfl, hk, hlv0, hlv1, hlv, hbr⟩ := hrel
      by_cases hlt : k < xs.length
      · obtain ⟨x, hx⟩ : ∃ x, xs[k]? = some x := ⟨_, List.getElem?_eq_getElem hlt⟩
        obtain ⟨k0, k1, k2⟩ := HC.out k x hx
        have c0 := (hbr.cell (p := ⟨b, off + k * 3, none⟩) hb).trans k0
        have c1 := (hbr.cell (p := ⟨b, off + k * 3 + 1, none⟩) hb).trans k1
        have c2 := (hbr.cell (p := ⟨b, off + k * 3 + 2, none⟩) hb).trans k2
        have hnm := HF.out.2 x (List.mem_of_getElem? hx)
        have HX := Lib.hid hx
        clear k0 k1 k2 hx
        go_wp2_with fail
        refine (szItem_any x lv _ hnm hlv0 hlv1).mono ?_
        rintro e w2 ⟨rfl, hb2⟩
        have hbw := hbr.trans (hb2.mono hbr.size)
        clear hb2 hbr c0 c1 c2
        by_cases hneg : lv < ((x.name.size : Nat) : Int)
        · rw [rest_neg hneg]
          have HR := Lib.hid (rest_neg (left := left) (n := wItems xs) (by have e1 := HW.out; have e2 := hlv.out; have e3 := nItems_step HX.out; have e4 := nItems_take_le xs (k + 1); omega))
          go_wp2
          go_ret
          exact ⟨by rw [HR.out]; rfl, hbw⟩
        · rw [rest_pos (by omega)]
          have h3 : 0 ≤ lv - ((x.name.size : Nat) : Int) := by omega
          go_wp2
          go_roundw
          case rel => exact ⟨k + 1, _, rfl, by go_num, by omega, h3, by omega, Lib.hid (by rw [nItems_step HX.out, hlv.out]; omega), hbw⟩
          case measure => simp only [intOf]; omega
      · obtain rfl : k = xs.length := by omega
        have HR := Lib.hid (rest_pos (left := left) (n := wItems xs) (by have e1 := HW.out; have e2 := hlv.out; rw [List.take_length] at e2; omega))
        have HV := Lib.hid (show lv = left - (wItems xs : Int) by have e1 := HW.out; have e2 := hlv.out; rw [List.take_length] at e2; omega)
        go_wp2
        go_ret
        exact ⟨by rw [HR.out, ← HV.out]; rfl, hbr⟩
set_option maxRecDepth 100000 in
theorem szScope_any (sc : Sc) (oi : Option Addr) (ci : Nat) (left : Int) (w : World) (hf : FitsItems sc.items) (hc : HoldsItems w oi sc.items) (h0 : 0 ≤ left) (h1 : left ≤ 1048576) :
    Calls Tryz.prog 39 #[.agg #[.int .i64 sc.parent, .slice oi sc.items.length ci], .int .i64 left] w fun e w' => e = .returned (.int .i64 (rest left (wItems sc.items))) ∧ Below w.heap.size w w' := by
  have hb0 := (Below.refl _ w).alloc (Nat.le_refl _) (.cells #[.int .i64 sc.parent, .slice oi sc.items.length ci] 63)
  have C := Lib.hid (szItemS_any sc.items oi ci left _ hf (hc.below hb0 (Nat.le_refl _)) h0 h1)
  clear hf hc
  by_cases h : ((wItems sc.items : Nat) : Int) ≤ left
  · rw [rest_pos h] at C ⊢
    have h2 : 0 ≤ left - ((wItems sc.items : Nat) : Int) := by omega
    go_enter Tryz.func39, Tryz.ntmps39
    go_wp2_with fail
    refine C.out.mono ?_
    rintro e w2 ⟨rfl, hb2⟩
    have hb := hb0.trans (hb2.mono hb0.size)
    go_wp2
    go_ret
    exact ⟨rfl, hb⟩
  · rw [rest_neg (by omega)] at C ⊢
    go_enter Tryz.func39, Tryz.ntmps39
    go_wp2_with fail
    refine C.out.mono ?_
    rintro e w2 ⟨rfl, hb2⟩
    have hb := hb0.trans (hb2.mono hb0.size)
    go_wp2
    go_ret
    exact ⟨rfl, hb⟩
/-- Graphs that a machine can hold. -/
def FitsScopes (ss : List Sc) : Prop := ss.length ≤ 2 ^ 63 - 1 ∧ ∀ s ∈ ss, FitsItems s.items
set_option maxRecDepth 100000 in
set_option maxHeartbeats 1600000 in
theorem szScopeS_any (xs : List Sc) (oa : Option Addr) (cap : Nat) (left : Int) (w : World) (hf : FitsScopes xs) (hc : HoldsScopes w oa xs) (h0 : 0 ≤ left) (h1 : left ≤ 1048576) :
    Calls Tryz.prog 20 #[.slice oa xs.length cap, .int .i64 left] w fun e w' => e = .returned (.int .i64 (rest left (wScopes xs))) ∧ Below w.heap.size w w' := by
  have hl := hf.1
  have HF := Lib.hid hf
  have HW := Lib.hid (wScopes_eq xs)
  clear hf
  by_cases hbig : left < (xs.length : Int)
  · have HR := Lib.hid (rest_neg (left := left) (n := wScopes xs) (by have := HW.out; omega))
    have h2 : left - (xs.length : Int) < 0 := by omega
    go_enter Tryz.func20, Tryz.ntmps20
    go_wp2
    go_ret
    exact ⟨by rw [HR.out]; rfl, Below.refl _ _⟩
  have h2 : 0 ≤ left - (xs.length : Int) := by omega
  rcases hc with rfl | ⟨b, off, rfl, hb, hc⟩
  · go_enter Tryz.func20, Tryz.ntmps20
    go_wp2
    go_loopw [1, 5] (fun l i wr => l = .int .i64 left ∧ i = .int .i64 0 ∧ Below w.heap.size w wr) (fun _ _ _ => 0)
    case atStart => exact ⟨by simp, rfl, Below.refl _ _⟩
    case round =>
      obtain ⟨rfl, rfl, hbr⟩ := hrel
      go_wp2
      go_ret
      exact ⟨by simp [rest, wScopes, h0], hbr⟩
  · have HC := Lib.hid hc
    clear hc
    go_enter Tryz.func20, Tryz.ntmps20
    go_wp2
    go_loopw [1, 5] (fun l i wr => ∃ (k : Nat) (lv : Int), l = .int .i64 lv ∧ i = .int .i64 k ∧ k ≤ xs.length ∧ 0 ≤ lv ∧ lv ≤ 1048576 ∧ Hid (lv = left - (xs.length : Int) - (nScopes (xs.take k) : Int)) ∧ Below w.heap.size w wr) (fun _ i _ => xs.length - (intOf i).toNat)
    case atStart => exact ⟨0, _, rfl, rfl, Nat.zero_le _, h2, by omega, Lib.hid (by simp [nScopes]), Below.refl _ _⟩
    case round =>
      obtain ⟨k, lv, rfl, rfl, hk, hlv0, hlv1, hlv, hbr⟩ := hrel
      by_cases hlt : k < xs.length
      · obtain ⟨x, hx⟩ : ∃ x, xs[k]? = some x := ⟨_, List.getElem?_eq_getElem hlt⟩
        obtain ⟨oi, ci, k0, k1, k2⟩ := HC.out k x hx
        have c0 := (hbr.cell (p := ⟨b, off + k * 2, none⟩) hb).trans k0
        have c1 := (hbr.cell (p := ⟨b, off + k * 2 + 1, none⟩) hb).trans k1
        have C := Lib.hid (szScope_any x oi ci lv wr (HF.out.2 x (List.mem_of_getElem? hx)) (k2.below hbr (Nat.le_refl _)) hlv0 hlv1)
        have HX := Lib.hid hx
        clear k0 k1 k2 hx
        go_wp2_with fail
        refine C.out.mono ?_
        rintro e w2 ⟨rfl, hb2⟩
        have hbw := hbr.trans (hb2.mono hbr.size)
        clear hb2 hbr c0 c1 C
        by_cases hneg : lv < ((wItems x.items : Nat) : Int)
        · rw [rest_neg hneg]
          have HR := Lib.hid (rest_neg (left := left) (n := wScopes xs) (by have e1 := HW.out; have e2 := hlv.out; have e3 := nScopes_step HX.out; have e4 := nScopes_take_le xs (k + 1); omega))
          go_wp2
          go_ret
          exact ⟨by rw [HR.out]; rfl, hbw⟩
        · rw [rest_pos (by omega)]
          have h3 : 0 ≤ lv - ((wItems x.items : Nat) : Int) := by omega
          go_wp2
          go_roundw
          case rel => exact ⟨k + 1, _, rfl, by go_num, by omega, h3, by omega, Lib.hid (by rw [nScopes_step HX.out, hlv.out]; omega), hbw⟩
          case measure => simp only [intOf]; omega
      · obtain rfl : k = xs.length := by omega
        have HR := Lib.hid (rest_pos (left := left) (n := wScopes xs) (by have e1 := HW.out; have e2 := hlv.out; rw [List.take_length] at e2; omega))
        have HV := Lib.hid (show lv = left - (wScopes xs : Int) by have e1 := HW.out; have e2 := hlv.out; rw [List.take_length] at e2; omega)
        go_wp2
        go_ret
        exact ⟨by rw [HR.out, ← HV.out]; rfl, hbr⟩
set_option maxRecDepth 100000 in
theorem szGraph_any (xs : List Sc) (oa : Option Addr) (cap : Nat) (left : Int) (w : World) (hf : FitsScopes xs) (hc : HoldsScopes w oa xs) (h0 : 0 ≤ left) (h1 : left ≤ 1048576) :
    Calls Tryz.prog 6 #[.agg #[.slice oa xs.length cap], .int .i64 left] w fun e w' => e = .returned (.int .i64 (rest left (wScopes xs))) ∧ Below w.heap.size w w' := by
  have hb0 := (Below.refl _ w).alloc (Nat.le_refl _) (.cells #[.slice oa xs.length cap] 24)
  have C := Lib.hid (szScopeS_any xs oa cap left _ hf (hc.below hb0 (Nat.le_refl _)) h0 h1)
  clear hf hc
  by_cases h : ((wScopes xs : Nat) : Int) ≤ left
  · rw [rest_pos h] at C ⊢
    have h2 : 0 ≤ left - ((wScopes xs : Nat) : Int) := by omega
    go_enter Tryz.func6, Tryz.ntmps6
    go_wp2_with fail
    refine C.out.mono ?_
    rintro e w2 ⟨rfl, hb2⟩
    have hb := hb0.trans (hb2.mono hb0.size)
    go_wp2
    go_ret
    exact ⟨rfl, hb⟩
  · rw [rest_neg (by omega)] at C ⊢
    go_enter Tryz.func6, Tryz.ntmps6
    go_wp2_with fail
    refine C.out.mono ?_
    rintro e w2 ⟨rfl, hb2⟩
    have hb := hb0.trans (hb2.mono hb0.size)
    go_wp2
    go_ret
    exact ⟨rfl, hb⟩
end Go.Proofs.YtgehpaojbnpbcaaGreatDoor
namespace Go.Proofs.YtgehpaojbnpbcaaGreatDoor
open Go Go.RowKit
theorem infoItem : (Tryz.prog.info? 137).map (fun i => (i.zero, i.size, i.bytes)) = some (some (.agg #[.int .i64 0, .string ⟨#[]⟩, .int .i64 0]), 3, 32) := by kernel_rfl
theorem infoScope : (Tryz.prog.info? 67).map (fun i => (i.zero, i.size, i.bytes)) = some (some (.agg #[.int .i64 0, .slice none 0 0]), 2, 32) := by kernel_rfl
theorem toItem_any (x : It) (w : World) :
    Calls Tryz.prog 99 #[.agg #[.int .i64 x.kind, .string x.name, .int .i64 x.scope]] w fun e w' => e = .returned (.agg #[.int .i64 x.kind, .string x.name, .int .i64 x.scope]) ∧ Below w.heap.size w w' := by
  obtain ⟨kd, nm, sc⟩ := x
  go_enter Tryz.func99, Tryz.ntmps99
  go_wp2
  refine bodyPost_ret (v := .agg #[.int .i64 kd, .string nm, .int .i64 sc]) (by simp [results, Tryz.results99, go_sem]) rfl ⟨rfl, ?_⟩
  repeat (first | exact Below.refl _ _ | apply Below.drew | refine Below.alloc ?_ (by simp <;> omega) _ | refine Below.setCell ?_ (by simp <;> omega) _)
/-- The items' cells. -/
def itemCells (xs : List It) : List Value := xs.flatMap fun x => [.int .i64 x.kind, .string x.name, .int .i64 x.scope]
theorem itemCells_length (xs : List It) : (itemCells xs).length = 3 * xs.length := by
  induction xs with
  | nil => rfl
  | cons p r ih => unfold itemCells at ih ⊢; rw [List.flatMap_cons, List.length_append, ih]; simp; omega
theorem itemCells_snoc (xs : List It) (x : It) : itemCells (xs ++ [x]) = itemCells xs ++ [.int .i64 x.kind, .string x.name, .int .i64 x.scope] := by
  simp [itemCells]
theorem itemCells_at (xs : List It) : ∀ (i : Nat) (x : It), xs[i]? = some x → (itemCells xs)[i * 3]? = some (.int .i64 x.kind) ∧ (itemCells xs)[i * 3 + 1]? = some (.string x.name) ∧ (itemCells xs)[i * 3 + 2]? = some (.int .i64 x.scope) := by
  induction xs with
  | nil => intro i p h; simp at h
  | cons q r ih =>
    intro i p h
    have e : itemCells (q :: r) = .int .i64 q.kind :: .string q.name :: .int .i64 q.scope :: itemCells r := rfl
    cases i with
    | zero => simp at h; subst h; rw [e]; simp
    | succ i =>
      have := ih i p (by simpa using h)
      rw [e, show (i + 1) * 3 = i * 3 + 1 + 1 + 1 from by omega]
      simpa using this
/-- A block's row that holds items. -/
theorem Row.items {w : World} {g : Nat} {t : TypeId} {xs : List It} (h : Row w g t (itemCells xs)) : HoldsItems w (some ⟨g, 0, none⟩) xs := by
  refine .inr ⟨g, 0, rfl, h.lt, fun i x hx => ?_⟩
  obtain ⟨h1, h2, h3⟩ := itemCells_at xs i x hx
  exact ⟨by rw [Nat.zero_add]; exact h.cell h1, by rw [Nat.zero_add]; exact h.cell h2, by rw [Nat.zero_add]; exact h.cell h3⟩
/-- One item more is laid. -/
theorem item_step {vs : List Value} {xs : List It} {k : Nat} {x : It} (hl : vs.length = 3 * xs.length) (ht : vs.take (3 * k) = itemCells (xs.take k)) (hx : xs[k]? = some x) :
    (((vs.set (k * 3) (.int .i64 x.kind)).set (k * 3 + 1) (.string x.name)).set (k * 3 + 2) (.int .i64 x.scope)).take (3 * (k + 1)) = itemCells (xs.take (k + 1)) := by
  have hk := (List.getElem?_eq_some_iff.1 hx).1
  have e1 : xs.take (k + 1) = xs.take k ++ [x] := by rw [List.take_add_one, hx]; rfl
  rw [e1, itemCells_snoc, ← ht, show 3 * (k + 1) = 3 * k + 1 + 1 + 1 from by omega, List.take_add_one, List.take_add_one, List.take_add_one]
  have h1 : (((vs.set (k * 3) (.int .i64 x.kind)).set (k * 3 + 1) (.string x.name)).set (k * 3 + 2) (.int .i64 x.scope)).take (3 * k) = vs.take (3 * k) := by
    rw [List.take_set_of_le (by omega), List.take_set_of_le (by omega), List.take_set_of_le (by omega)]
  have h2 : (((vs.set (k * 3) (.int .i64 x.kind)).set (k * 3 + 1) (.string x.name)).set (k * 3 + 2) (.int .i64 x.scope))[3 * k]? = some (.int .i64 x.kind) := by
    rw [List.getElem?_set_ne (by omega), List.getElem?_set_ne (by omega), show 3 * k = k * 3 from by omega, List.getElem?_set_self (by omega)]
  have h3 : (((vs.set (k * 3) (.int .i64 x.kind)).set (k * 3 + 1) (.string x.name)).set (k * 3 + 2) (.int .i64 x.scope))[3 * k + 1]? = some (.string x.name) := by
    rw [List.getElem?_set_ne (by omega), show 3 * k + 1 = k * 3 + 1 from by omega, List.getElem?_set_self (by simp; omega)]
  have h4 : (((vs.set (k * 3) (.int .i64 x.kind)).set (k * 3 + 1) (.string x.name)).set (k * 3 + 2) (.int .i64 x.scope))[3 * k + 1 + 1]? = some (.int .i64 x.scope) := by
    rw [show 3 * k + 1 + 1 = k * 3 + 2 from by omega, List.getElem?_set_self (by simp; omega)]
  rw [h1, h2, h3, h4]
  simp
set_option maxRecDepth 100000 in
set_option maxHeartbeats 1600000 in
theorem toItemS_any (xs : List It) (oa : Option Addr) (cap : Nat) (w : World) (hn : xs.length ≤ 1048576) (hc : HoldsItems w oa xs) :
    Calls Tryz.prog 67 #[.slice oa xs.length cap] w fun e w' => ∃ g, e = .returned (.slice (some ⟨g, 0, none⟩) xs.length xs.length) ∧ w.heap.size ≤ g ∧ Row w' g 137 (itemCells xs) ∧ Below w.heap.size w w' := by
  obtain ⟨i0, hi, hz0, hz1, hz2⟩ := info_parts infoItem
  have hn2 : xs.length < 2 ^ 40 := by omega
  have HC := Lib.hid hc
  clear hn hc
  go_enter Tryz.func67, Tryz.ntmps67
  go_wp2_with (at_make; refine wpList_make_full _ rfl _ _ 65 rfl w.heap.size 137 i0 _ 3 Tryz.underlying65 hi hz0 hz1 .i64 .i64 _ _ xs.length rfl rfl rfl rfl (by rw [hz2]; omega) (by unfold maxLen; omega) (Nat.le_refl _) ?_; intro w1 hown hg1)
  obtain ⟨zs, hzs⟩ : ∃ zs, (madeCells (Value.agg #[.int .i64 0, .string ⟨#[]⟩, .int .i64 0]).cells (xs.length * 3)).toList = zs := ⟨_, rfl⟩
  rw [hzs] at hown
  have hzl : zs.length = 3 * xs.length := by have := hown.1; omega
  have hrow := Row.of_owns hown rfl
  have hb1 : Below w.heap.size w w1 := (Below.refl _ w).grown hg1 (Nat.le_refl _) (fun k h => by cases h)
  clear hown hg1 hzs
  go_loopw [4] (fun i wr => ∃ (k : Nat) (vs : List Value), i = .int .i64 k ∧ k ≤ xs.length ∧ vs.length = 3 * xs.length ∧ Hid (vs.take (3 * k) = itemCells (xs.take k)) ∧ Row wr w.heap.size 137 vs ∧ Below w.heap.size w wr) (fun i _ => xs.length - (intOf i).toNat)
  case atStart => exact ⟨0, zs, rfl, Nat.zero_le _, hzl, Lib.hid rfl, hrow, hb1⟩
  case round =>
    obtain ⟨k, vs, rfl, hk, hvl, hvt, hr, hbr⟩ := hrel
    have HVL := Lib.hid hvl
    clear hvl hrow hb1 hzl
    by_cases hlt : k < xs.length
    · obtain ⟨x, hx⟩ : ∃ x, xs[k]? = some x := ⟨_, List.getElem?_eq_getElem hlt⟩
      obtain ⟨b, off, rfl, hb, hcells⟩ : ∃ b off, oa = some ⟨b, off, none⟩ ∧ b < w.heap.size ∧ ∀ i x, xs[i]? = some x → w.cell? ⟨b, off + i * 3, none⟩ = some (.int .i64 x.kind) ∧ w.cell? ⟨b, off + i * 3 + 1, none⟩ = some (.string x.name) ∧ w.cell? ⟨b, off + i * 3 + 2, none⟩ = some (.int .i64 x.scope) := by
        rcases HC.out with h | h
        · subst h; simp at hlt
        · exact h
      obtain ⟨k0, k1, k2⟩ := hcells k x hx
      have c0 := (hbr.cell (p := ⟨b, off + k * 3, none⟩) hb).trans k0
      have c1 := (hbr.cell (p := ⟨b, off + k * 3 + 1, none⟩) hb).trans k1
      have c2 := (hbr.cell (p := ⟨b, off + k * 3 + 2, none⟩) hb).trans k2
      have HX := Lib.hid hx
      clear hx hcells k0 k1 k2
      go_wp2_with fail
      refine (toItem_any x _).mono ?_
      rintro e w2 ⟨rfl, hb2⟩
      have hr2 := hr.below hb2 hr.lt
      have hbw := hbr.trans (hb2.mono hbr.size)
      obtain ⟨x0, hx0⟩ : ∃ x, vs[k * 3]? = some x := ⟨_, List.getElem?_eq_getElem (by have := HVL.out; omega)⟩
      obtain ⟨x1, hx1⟩ : ∃ x, vs[k * 3 + 1]? = some x := ⟨_, List.getElem?_eq_getElem (by have := HVL.out; omega)⟩
      obtain ⟨x2, hx2⟩ : ∃ x, vs[k * 3 + 2]? = some x := ⟨_, List.getElem?_eq_getElem (by have := HVL.out; omega)⟩
      have q0 := hr2.cell hx0
      have q1 := hr2.cell hx1
      have q2 := hr2.cell hx2
      have f0 := hr2.frozen (k * 3)
      have f1 := hr2.frozen (k * 3 + 1)
      have f2 := hr2.frozen (k * 3 + 2)
      have HF := Lib.hid (((hr2.set (k * 3) (.int .i64 x.kind)).set (k * 3 + 1) (.string x.name)).set (k * 3 + 2) (.int .i64 x.scope))
      have HB := Lib.hid (((hbw.setCell (p := ⟨w.heap.size, k * 3, none⟩) (Nat.le_refl _) (.int .i64 x.kind)).setCell (p := ⟨w.heap.size, k * 3 + 1, none⟩) (Nat.le_refl _) (.string x.name)).setCell (p := ⟨w.heap.size, k * 3 + 2, none⟩) (Nat.le_refl _) (.int .i64 x.scope))
      have HT := Lib.hid (item_step HVL.out hvt.out HX.out)
      clear hx0 hx1 hx2 hr hr2 hbw hbr hb2 c0 c1 c2
      go_wp2
      go_roundw
      case rel => exact ⟨k + 1, _, by go_num, by omega, by rw [List.length_set, List.length_set, List.length_set]; exact HVL.out, HT, HF.out, HB.out⟩
      case measure => simp only [intOf]; omega
    · obtain rfl : k = xs.length := by omega
      have e : vs = itemCells xs := by
        have h1 := hvt.out
        rw [List.take_length, List.take_of_length_le (by rw [HVL.out]; omega)] at h1
        exact h1
      subst e
      go_wp2
      go_ret
      exact ⟨_, rfl, Nat.le_refl _, hr, hbr⟩
set_option maxRecDepth 100000 in
set_option maxHeartbeats 1600000 in
theorem toScope_any (sc : Sc) (oi : Option Addr) (ci : Nat) (w : World) (hn : sc.items.length ≤ 1048576) (hc : HoldsItems w oi sc.items) :
    Calls Tryz.prog 41 #[.agg #[.int .i64 sc.parent, .slice oi sc.items.length ci]] w fun e w' => ∃ g, e = .returned (.agg #[.int .i64 sc.parent, .slice (some ⟨g, 0, none⟩) sc.items.length sc.items.length]) ∧ w.heap.size < g ∧ Row w' g 137 (itemCells sc.items) ∧ Below w.heap.size w w' := by
  obtain ⟨pr, xs⟩ := sc
  simp only at hn hc ⊢
  have C := Lib.hid (fun (w' : World) (hb : Below w.heap.size w w') => toItemS_any xs oi ci w' hn (hc.below hb (Nat.le_refl _)))
  have hn2 : xs.length < 2 ^ 40 := by omega
  clear hn hc
  go_enter Tryz.func41, Tryz.ntmps41
  go_wp2_with fail
  refine (C.out _ (by repeat (first | exact Below.refl _ _ | refine Below.alloc ?_ (by simp <;> omega) _))).mono ?_
  rintro e w1 ⟨g, rfl, hg, hr, hb⟩
  have hz : w.heap.size + 2 < w1.heap.size := by have := hb.size; simp at this; omega
  have hg' : w.heap.size + 2 < g := by simp at hg; omega
  have c0 : w1.cell? ⟨w.heap.size + 1 + 1, 0, none⟩ = some (.int .i64 pr) := (hb.cell (by simp)).trans (by simp [go_sem])
  have c1 : w1.cell? ⟨w.heap.size + 1 + 1, 1, none⟩ = some (.slice none 0 0) := (hb.cell (by simp)).trans (by simp [go_sem])
  have f0 : w1.frozen? ⟨w.heap.size + 1 + 1, 0, none⟩ = false := (hb.frozen (by simp)).trans (by simp [go_sem])
  have f1 : w1.frozen? ⟨w.heap.size + 1 + 1, 1, none⟩ = false := (hb.frozen (by simp)).trans (by simp [go_sem])
  have d0 : w1.cell? ⟨w.heap.size + 1, 0, none⟩ = some (.int .i64 0) := (hb.cell (by simp)).trans (by simp [go_sem])
  have d1 : w1.cell? ⟨w.heap.size + 1, 1, none⟩ = some (.slice none 0 0) := (hb.cell (by simp)).trans (by simp [go_sem])
  have e0 : w1.frozen? ⟨w.heap.size + 1, 0, none⟩ = false := (hb.frozen (by simp)).trans (by simp [go_sem])
  have e1 : w1.frozen? ⟨w.heap.size + 1, 1, none⟩ = false := (hb.frozen (by simp)).trans (by simp [go_sem])
  have HB := Lib.hid (show Below w.heap.size w w1 from (show Below w.heap.size w _ from by repeat (first | exact Below.refl _ _ | refine Below.alloc ?_ (by simp <;> omega) _)).trans (hb.mono (by simp; omega)))
  have HR := Lib.hid hr
  clear hb hr hg
  go_wp2
  refine bodyPost_ret (v := .agg #[.int .i64 pr, .slice (some ⟨g, 0, none⟩) xs.length xs.length]) (by simp [results, Tryz.results41, go_sem, d0, d1]) rfl ⟨g, rfl, by omega, ?_, ?_⟩
  · repeat (first | exact HR.out | refine Row.other ?_ (by simp <;> omega) _)
  · repeat (first | exact HB.out | refine Below.setCell ?_ (by simp <;> omega) _)
/-- The first k scopes of a list are laid in a row of a graph of its own, each with its items in a row behind it. -/
def Laid (w : World) (g0 : Nat) (vs : List Value) (ss : List Sc) (k : Nat) : Prop :=
  ∀ i s, i < k → ss[i]? = some s → ∃ gi, vs[i * 2]? = some (.int .i64 s.parent) ∧ vs[i * 2 + 1]? = some (.slice (some ⟨gi, 0, none⟩) s.items.length s.items.length) ∧ g0 < gi ∧ Row w gi 137 (itemCells s.items)
theorem Laid.below {w w' : World} {g0 : Nat} {vs : List Value} {ss : List Sc} {k : Nat} (h : Laid w g0 vs ss k) (hb : Below w.heap.size w w') : Laid w' g0 vs ss k := by
  intro i s hi hs
  obtain ⟨gi, a, b, c, d⟩ := h i s hi hs
  exact ⟨gi, a, b, c, d.below hb d.lt⟩
theorem Laid.other {w : World} {g0 : Nat} {vs : List Value} {ss : List Sc} {k : Nat} (h : Laid w g0 vs ss k) {a : Addr} (ha : a.block ≤ g0) (v : Value) : Laid (w.setCell a v) g0 vs ss k := by
  intro i s hi hs
  obtain ⟨gi, p, q, c, d⟩ := h i s hi hs
  exact ⟨gi, p, q, c, d.other (by omega) _⟩
theorem Laid.step {w : World} {g0 : Nat} {vs : List Value} {ss : List Sc} {k gi : Nat} {s : Sc} (h : Laid w g0 vs ss k) (hl : vs.length = 2 * ss.length) (hs : ss[k]? = some s) (hg : g0 < gi) (hr : Row w gi 137 (itemCells s.items)) :
    Laid ((w.setCell ⟨g0, k * 2, none⟩ (.int .i64 s.parent)).setCell ⟨g0, k * 2 + 1, none⟩ (.slice (some ⟨gi, 0, none⟩) s.items.length s.items.length)) g0
      ((vs.set (k * 2) (.int .i64 s.parent)).set (k * 2 + 1) (.slice (some ⟨gi, 0, none⟩) s.items.length s.items.length)) ss (k + 1) := by
  have hk := (List.getElem?_eq_some_iff.1 hs).1
  intro i t hi ht
  by_cases he : i = k
  · subst he
    rw [hs] at ht; cases ht
    refine ⟨gi, ?_, ?_, hg, (hr.other (by simp; omega) _).other (by simp; omega) _⟩
    · rw [List.getElem?_set_ne (by omega), List.getElem?_set_self (by omega)]
    · rw [List.getElem?_set_self (by simp; omega)]
  · obtain ⟨gj, a, b, c, d⟩ := h i t (by omega) ht
    refine ⟨gj, ?_, ?_, c, (d.other (by simp; omega) _).other (by simp; omega) _⟩
    · rw [List.getElem?_set_ne (by omega), List.getElem?_set_ne (by omega)]; exact a
    · rw [List.getElem?_set_ne (by omega), List.getElem?_set_ne (by omega)]; exact b
theorem Laid.holds {w : World} {g0 : Nat} {t : TypeId} {vs : List Value} {ss : List Sc} (h : Laid w g0 vs ss ss.length) (hr : Row w g0 t vs) : HoldsScopes w (some ⟨g0, 0, none⟩) ss := by
  refine .inr ⟨g0, 0, rfl, hr.lt, fun i s hs => ?_⟩
  obtain ⟨gi, a, b, _, d⟩ := h i s (List.getElem?_eq_some_iff.1 hs).1 hs
  exact ⟨_, _, by rw [Nat.zero_add]; exact hr.cell a, by rw [Nat.zero_add]; exact hr.cell b, d.items⟩
set_option maxRecDepth 100000 in
set_option maxHeartbeats 1600000 in
theorem toScopeS_any (ss : List Sc) (oa : Option Addr) (cap : Nat) (w : World) (hn : ss.length ≤ 1048576) (hn2 : ∀ s ∈ ss, s.items.length ≤ 1048576) (hc : HoldsScopes w oa ss) :
    Calls Tryz.prog 23 #[.slice oa ss.length cap] w fun e w' => ∃ g vs, e = .returned (.slice (some ⟨g, 0, none⟩) ss.length ss.length) ∧ w.heap.size ≤ g ∧ vs.length = 2 * ss.length ∧ Row w' g 67 vs ∧ Laid w' g vs ss ss.length ∧ Below w.heap.size w w' := by
  obtain ⟨i0, hi, hz0, hz1, hz2⟩ := info_parts infoScope
  have hn3 : ss.length < 2 ^ 40 := by omega
  have HC := Lib.hid hc
  have HN := Lib.hid hn2
  clear hn hc hn2
  go_enter Tryz.func23, Tryz.ntmps23
  go_wp2_with (at_make; refine wpList_make_full _ rfl _ _ 26 rfl w.heap.size 67 i0 _ 2 Tryz.underlying26 hi hz0 hz1 .i64 .i64 _ _ ss.length rfl rfl rfl rfl (by rw [hz2]; omega) (by unfold maxLen; omega) (Nat.le_refl _) ?_; intro w1 hown hg1)
  obtain ⟨zs, hzs⟩ : ∃ zs, (madeCells (Value.agg #[.int .i64 0, .slice none 0 0]).cells (ss.length * 2)).toList = zs := ⟨_, rfl⟩
  rw [hzs] at hown
  have hzl : zs.length = 2 * ss.length := by have := hown.1; omega
  have hrow := Row.of_owns hown rfl
  have hb1 : Below w.heap.size w w1 := (Below.refl _ w).grown hg1 (Nat.le_refl _) (fun k h => by cases h)
  clear hown hg1 hzs
  go_loopw [4] (fun i wr => ∃ (k : Nat) (vs : List Value), i = .int .i64 k ∧ k ≤ ss.length ∧ vs.length = 2 * ss.length ∧ Laid wr w.heap.size vs ss k ∧ Row wr w.heap.size 67 vs ∧ Below w.heap.size w wr) (fun i _ => ss.length - (intOf i).toNat)
  case atStart => exact ⟨0, zs, rfl, Nat.zero_le _, hzl, (fun i s hi => absurd hi (Nat.not_lt_zero _)), hrow, hb1⟩
  case round =>
    obtain ⟨k, vs, rfl, hk, hvl, hvt, hr, hbr⟩ := hrel
    have HVL := Lib.hid hvl
    have HVT := Lib.hid hvt
    clear hvl hrow hb1 hzl hvt
    by_cases hlt : k < ss.length
    · obtain ⟨s, hs⟩ : ∃ s, ss[k]? = some s := ⟨_, List.getElem?_eq_getElem hlt⟩
      obtain ⟨b, off, rfl, hb, hcells⟩ : ∃ b off, oa = some ⟨b, off, none⟩ ∧ b < w.heap.size ∧ ∀ i s, ss[i]? = some s →
          ∃ (oi : Option Addr) (ci : Nat), w.cell? ⟨b, off + i * 2, none⟩ = some (.int .i64 s.parent) ∧ w.cell? ⟨b, off + i * 2 + 1, none⟩ = some (.slice oi s.items.length ci) ∧ HoldsItems w oi s.items := by
        rcases HC.out with h | h
        · subst h; simp at hlt
        · exact h
      obtain ⟨oi, ci, k0, k1, k2⟩ := hcells k s hs
      have c0 := (hbr.cell (p := ⟨b, off + k * 2, none⟩) hb).trans k0
      have c1 := (hbr.cell (p := ⟨b, off + k * 2 + 1, none⟩) hb).trans k1
      have C := Lib.hid (toScope_any s oi ci wr (HN.out s (List.mem_of_getElem? hs)) (k2.below hbr (Nat.le_refl _)))
      have HS := Lib.hid hs
      clear hs hcells k0 k1 k2
      go_wp2_with fail
      refine C.out.mono ?_
      rintro e w2 ⟨gi, rfl, hgi, hri, hb2⟩
      have hr2 := hr.below hb2 hr.lt
      have hbw := hbr.trans (hb2.mono hbr.size)
      obtain ⟨x0, hx0⟩ : ∃ x, vs[k * 2]? = some x := ⟨_, List.getElem?_eq_getElem (by have := HVL.out; omega)⟩
      obtain ⟨x1, hx1⟩ : ∃ x, vs[k * 2 + 1]? = some x := ⟨_, List.getElem?_eq_getElem (by have := HVL.out; omega)⟩
      have q0 := hr2.cell hx0
      have q1 := hr2.cell hx1
      have f0 := hr2.frozen (k * 2)
      have f1 := hr2.frozen (k * 2 + 1)
      have HF := Lib.hid ((hr2.set (k * 2) (.int .i64 s.parent)).set (k * 2 + 1) (.slice (some ⟨gi, 0, none⟩) s.items.length s.items.length))
      have HB := Lib.hid ((hbw.setCell (p := ⟨w.heap.size, k * 2, none⟩) (Nat.le_refl _) (.int .i64 s.parent)).setCell (p := ⟨w.heap.size, k * 2 + 1, none⟩) (Nat.le_refl _) (.slice (some ⟨gi, 0, none⟩) s.items.length s.items.length))
      have HT := Lib.hid ((HVT.out.below hb2).step HVL.out HS.out (by have := hr.lt; omega) hri)
      clear hx0 hx1 hr hr2 hbw hbr hb2 c0 c1 C hri
      go_wp2
      go_roundw
      case rel => exact ⟨k + 1, _, by go_num, by omega, by rw [List.length_set, List.length_set]; exact HVL.out, HT.out, HF.out, HB.out⟩
      case measure => simp only [intOf]; omega
    · obtain rfl : k = ss.length := by omega
      go_wp2
      go_ret
      exact ⟨_, vs, rfl, Nat.le_refl _, HVL.out, hr, HVT.out, hbr⟩
set_option maxRecDepth 100000 in
set_option maxHeartbeats 1600000 in
theorem toGraph_any (ss : List Sc) (oa : Option Addr) (cap : Nat) (w : World) (hn : ss.length ≤ 1048576) (hn2 : ∀ s ∈ ss, s.items.length ≤ 1048576) (hc : HoldsScopes w oa ss) :
    Calls Tryz.prog 8 #[.agg #[.slice oa ss.length cap]] w fun e w' => ∃ g vs, e = .returned (.agg #[.slice (some ⟨g, 0, none⟩) ss.length ss.length]) ∧ w.heap.size < g ∧ vs.length = 2 * ss.length ∧ Row w' g 67 vs ∧ Laid w' g vs ss ss.length ∧ Below w.heap.size w w' := by
  have C := Lib.hid (fun (w' : World) (hb : Below w.heap.size w w') => toScopeS_any ss oa cap w' hn hn2 (hc.below hb (Nat.le_refl _)))
  clear hn hc hn2
  go_enter Tryz.func8, Tryz.ntmps8
  go_wp2_with fail
  refine (C.out _ (by repeat (first | exact Below.refl _ _ | refine Below.alloc ?_ (by simp <;> omega) _))).mono ?_
  rintro e w1 ⟨g, vs, rfl, hg, hvl, hr, hl, hb⟩
  have hz : w.heap.size + 2 < w1.heap.size := by have := hb.size; simp at this; omega
  have hg' : w.heap.size + 2 < g := by simp at hg; omega
  have c0 : w1.cell? ⟨w.heap.size + 1 + 1, 0, none⟩ = some (.slice none 0 0) := (hb.cell (by simp)).trans (by simp [go_sem])
  have f0 : w1.frozen? ⟨w.heap.size + 1 + 1, 0, none⟩ = false := (hb.frozen (by simp)).trans (by simp [go_sem])
  have d0 : w1.cell? ⟨w.heap.size + 1, 0, none⟩ = some (.slice none 0 0) := (hb.cell (by simp)).trans (by simp [go_sem])
  have e0 : w1.frozen? ⟨w.heap.size + 1, 0, none⟩ = false := (hb.frozen (by simp)).trans (by simp [go_sem])
  have HB := Lib.hid (show Below w.heap.size w w1 from (show Below w.heap.size w _ from by repeat (first | exact Below.refl _ _ | refine Below.alloc ?_ (by simp <;> omega) _)).trans (hb.mono (by simp; omega)))
  have HR := Lib.hid hr
  have HL := Lib.hid hl
  have HVL := Lib.hid hvl
  clear hb hr hg hl hvl
  go_wp2
  refine bodyPost_ret (v := .agg #[.slice (some ⟨g, 0, none⟩) ss.length ss.length]) (by simp [results, Tryz.results8, go_sem, d0]) rfl ⟨g, vs, rfl, by omega, HVL.out, ?_, ?_, ?_⟩
  · repeat (first | exact HR.out | refine Row.other ?_ (by simp <;> omega) _)
  · repeat (first | exact HL.out | refine Laid.other ?_ (by simp <;> omega) _)
  · repeat (first | exact HB.out | refine Below.setCell ?_ (by simp <;> omega) _)
end Go.Proofs.YtgehpaojbnpbcaaGreatDoor
namespace Go.Proofs.YtgehpaojbnpbcaaGreatDoor
open Go Go.RowKit
set_option maxRecDepth 100000 in
theorem eqItem_same (x : It) (w : World) :
    Calls Tryz.prog 106 #[.agg #[.int .i64 x.kind, .string x.name, .int .i64 x.scope], .agg #[.int .i64 x.kind, .string x.name, .int .i64 x.scope]] w fun e w' => e = .returned (.bool true) ∧ Below w.heap.size w w' := by
  obtain ⟨kd, nm, sc⟩ := x
  go_enter Tryz.func106, Tryz.ntmps106
  go_wp2
  go_ret
  exact ⟨rfl, by repeat (first | exact Below.refl _ _ | apply Below.drew | refine Below.alloc ?_ (by simp <;> omega) _)⟩
/-- An item's three cells. -/
theorem HoldsItems.at {w : World} {oa : Option Addr} {xs : List It} (h : HoldsItems w oa xs) (hne : 0 < xs.length) : ∃ b off, oa = some ⟨b, off, none⟩ ∧ b < w.heap.size ∧ ∀ i x, xs[i]? = some x →
    w.cell? ⟨b, off + i * 3, none⟩ = some (.int .i64 x.kind) ∧ w.cell? ⟨b, off + i * 3 + 1, none⟩ = some (.string x.name) ∧ w.cell? ⟨b, off + i * 3 + 2, none⟩ = some (.int .i64 x.scope) := by
  rcases h with h | h
  · subst h; simp at hne
  · exact h
theorem HoldsScopes.at {w : World} {oa : Option Addr} {ss : List Sc} (h : HoldsScopes w oa ss) (hne : 0 < ss.length) : ∃ b off, oa = some ⟨b, off, none⟩ ∧ b < w.heap.size ∧ ∀ i s, ss[i]? = some s →
    ∃ (oi : Option Addr) (ci : Nat), w.cell? ⟨b, off + i * 2, none⟩ = some (.int .i64 s.parent) ∧ w.cell? ⟨b, off + i * 2 + 1, none⟩ = some (.slice oi s.items.length ci) ∧ HoldsItems w oi s.items := by
  rcases h with h | h
  · subst h; simp at hne
  · exact h
set_option maxRecDepth 100000 in
set_option maxHeartbeats 1600000 in
theorem eqItemS_same (xs : List It) (o1 o2 : Option Addr) (c1 c2 : Nat) (w : World) (hn : xs.length < 2 ^ 40) (k1 : HoldsItems w o1 xs) (k2 : HoldsItems w o2 xs) :
    Calls Tryz.prog 80 #[.slice o1 xs.length c1, .slice o2 xs.length c2] w fun e w' => e = .returned (.bool true) ∧ Below w.heap.size w w' := by
  have K1 := Lib.hid k1
  have K2 := Lib.hid k2
  clear k1 k2
  go_enter Tryz.func80, Tryz.ntmps80
  go_wp2
  go_loopw [5] (fun i wr => ∃ k : Nat, i = .int .i64 k ∧ k ≤ xs.length ∧ Below w.heap.size w wr) (fun i _ => xs.length - (intOf i).toNat)
  case atStart => exact ⟨0, rfl, Nat.zero_le _, Below.refl _ _⟩
  case round =>
    obtain ⟨k, rfl, hk, hb⟩ := hrel
    by_cases hlt : k < xs.length
    · obtain ⟨x, hx⟩ : ∃ x, xs[k]? = some x := ⟨_, List.getElem?_eq_getElem hlt⟩
      obtain ⟨b1, f1, rfl, hb1, q1⟩ := (K1.out.below hb (Nat.le_refl _)).at (by omega)
      obtain ⟨b2, f2, rfl, hb2, q2⟩ := (K2.out.below hb (Nat.le_refl _)).at (by omega)
      obtain ⟨a0, a1, a2⟩ := q1 k x hx
      obtain ⟨d0, d1, d2⟩ := q2 k x hx
      clear hx q1 q2
      have r0 := cell_regrown a0
      have r1 := cell_regrown a1
      have r2 := cell_regrown a2
      have r3 := cell_regrown d0
      have r4 := cell_regrown d1
      have r5 := cell_regrown d2
      have cE := fun d os => Calls.regrown_of (w := wr) (d := d) (os := os) (eqItem_same x _)
      clear a0 a1 a2 d0 d1 d2
      go_wp2_with fail
      refine wp_region_quiet_below (by kernel_rfl) (by kernel_rfl) ?_
      repeat (quiet_step (exact cE _ _))
      refine wpQuiet_nil ?_
      intro _ hw'
      obtain ⟨⟨dq, osq⟩, hw''⟩ := hw'
      subst hw''
      have hb' := hb.trans ((below_regrown wr dq osq).mono hb.size)
      go_wp2
      go_roundw
      case rel => exact ⟨k + 1, by go_num, by omega, hb'⟩
      case measure => simp only [intOf]; omega
    · go_wp2
      go_ret
      exact ⟨rfl, hb⟩
set_option maxRecDepth 100000 in
theorem eqScope_same (s : Sc) (o1 o2 : Option Addr) (c1 c2 : Nat) (w : World) (hn : s.items.length < 2 ^ 40) (k1 : HoldsItems w o1 s.items) (k2 : HoldsItems w o2 s.items) :
    Calls Tryz.prog 48 #[.agg #[.int .i64 s.parent, .slice o1 s.items.length c1], .agg #[.int .i64 s.parent, .slice o2 s.items.length c2]] w fun e w' => e = .returned (.bool true) ∧ Below w.heap.size w w' := by
  have C := Lib.hid (fun (w' : World) (hb : Below w.heap.size w w') => eqItemS_same s.items o1 o2 c1 c2 w' hn (k1.below hb (Nat.le_refl _)) (k2.below hb (Nat.le_refl _)))
  clear k1 k2
  go_enter Tryz.func48, Tryz.ntmps48
  go_wp2_with fail
  refine (C.out _ (by repeat (first | exact Below.refl _ _ | refine Below.alloc ?_ (by simp <;> omega) _))).mono ?_
  rintro e w1 ⟨rfl, hb⟩
  have HB := Lib.hid (show Below w.heap.size w w1 from (show Below w.heap.size w _ from by repeat (first | exact Below.refl _ _ | refine Below.alloc ?_ (by simp <;> omega) _)).trans (hb.mono (by simp; omega)))
  clear hb
  go_wp2
  go_ret
  exact ⟨rfl, HB.out⟩
set_option maxRecDepth 100000 in
set_option maxHeartbeats 1600000 in
theorem eqScopeS_same (ss : List Sc) (o1 o2 : Option Addr) (c1 c2 : Nat) (w : World) (hn : ss.length < 2 ^ 40) (hn2 : ∀ s ∈ ss, s.items.length < 2 ^ 40) (k1 : HoldsScopes w o1 ss) (k2 : HoldsScopes w o2 ss) :
    Calls Tryz.prog 26 #[.slice o1 ss.length c1, .slice o2 ss.length c2] w fun e w' => e = .returned (.bool true) ∧ Below w.heap.size w w' := by
  have K1 := Lib.hid k1
  have K2 := Lib.hid k2
  have HN := Lib.hid hn2
  clear k1 k2 hn2
  go_enter Tryz.func26, Tryz.ntmps26
  go_wp2
  go_loopw [5] (fun i wr => ∃ k : Nat, i = .int .i64 k ∧ k ≤ ss.length ∧ Below w.heap.size w wr) (fun i _ => ss.length - (intOf i).toNat)
  case atStart => exact ⟨0, rfl, Nat.zero_le _, Below.refl _ _⟩
  case round =>
    obtain ⟨k, rfl, hk, hb⟩ := hrel
    by_cases hlt : k < ss.length
    · obtain ⟨s, hs⟩ : ∃ s, ss[k]? = some s := ⟨_, List.getElem?_eq_getElem hlt⟩
      obtain ⟨b1, f1, rfl, hb1, q1⟩ := (K1.out.below hb (Nat.le_refl _)).at (by omega)
      obtain ⟨b2, f2, rfl, hb2, q2⟩ := (K2.out.below hb (Nat.le_refl _)).at (by omega)
      obtain ⟨oi, ci, a0, a1, a2⟩ := q1 k s hs
      obtain ⟨oj, cj, d0, d1, d2⟩ := q2 k s hs
      have cE := fun d os => Calls.regrown_of (w := wr) (d := d) (os := os) (eqScope_same s oi oj ci cj _ (HN.out s (List.mem_of_getElem? hs)) (a2.below (below_regrown wr d os) (Nat.le_refl _)) (d2.below (below_regrown wr d os) (Nat.le_refl _)))
      clear hs q1 q2 a2 d2
      have r0 := cell_regrown a0
      have r1 := cell_regrown a1
      have r3 := cell_regrown d0
      have r4 := cell_regrown d1
      clear a0 a1 d0 d1
      go_wp2_with fail
      refine wp_region_quiet_below (by kernel_rfl) (by kernel_rfl) ?_
      repeat (quiet_step (exact cE _ _))
      refine wpQuiet_nil ?_
      intro _ hw'
      obtain ⟨⟨dq, osq⟩, hw''⟩ := hw'
      subst hw''
      have hb' := hb.trans ((below_regrown wr dq osq).mono hb.size)
      go_wp2
      go_roundw
      case rel => exact ⟨k + 1, by go_num, by omega, hb'⟩
      case measure => simp only [intOf]; omega
    · go_wp2
      go_ret
      exact ⟨rfl, hb⟩
set_option maxRecDepth 100000 in
theorem eqGraph_same (ss : List Sc) (o1 o2 : Option Addr) (c1 c2 : Nat) (w : World) (hn : ss.length < 2 ^ 40) (hn2 : ∀ s ∈ ss, s.items.length < 2 ^ 40) (k1 : HoldsScopes w o1 ss) (k2 : HoldsScopes w o2 ss) :
    Calls Tryz.prog 10 #[.agg #[.slice o1 ss.length c1], .agg #[.slice o2 ss.length c2]] w fun e w' => e = .returned (.bool true) ∧ Below w.heap.size w w' := by
  have C := Lib.hid (fun (w' : World) (hb : Below w.heap.size w w') => eqScopeS_same ss o1 o2 c1 c2 w' hn hn2 (k1.below hb (Nat.le_refl _)) (k2.below hb (Nat.le_refl _)))
  clear k1 k2 hn2
  go_enter Tryz.func10, Tryz.ntmps10
  go_wp2_with fail
  refine (C.out _ (by repeat (first | exact Below.refl _ _ | refine Below.alloc ?_ (by simp <;> omega) _))).mono ?_
  rintro e w1 ⟨rfl, hb⟩
  have HB := Lib.hid (show Below w.heap.size w w1 from (show Below w.heap.size w _ from by repeat (first | exact Below.refl _ _ | refine Below.alloc ?_ (by simp <;> omega) _)).trans (hb.mono (by simp; omega)))
  clear hb
  go_wp2
  go_ret
  exact ⟨rfl, HB.out⟩
end Go.Proofs.YtgehpaojbnpbcaaGreatDoor
