/-
  The walks of the laws' comparisons of graphs (eqItem, eqItemS, eqScope, eqScopeS, eqGraph): two that hold the same are told to be the same; only new memory is written. Condition: at most 2^20 scopes, and items in each.
-/
import Derived.Test.YtlhlcdlkilpbhaaDoorWCopy
import Derived.Deep.QuietTactic
import Derived.BigQuiet
import Derived.Lib.QuietBelow
namespace Go.Proofs.YtlhlcdlkilpbhaaDoor
open Go Go.RowKit
set_option maxRecDepth 100000 in
theorem eqItem_same (x : It) (w : World) :
    Calls Tryd.prog 20 #[.agg #[.int .i64 x.kind, .string x.name, .int .i64 x.scope], .agg #[.int .i64 x.kind, .string x.name, .int .i64 x.scope]] w fun e w' => e = .returned (.bool true) ∧ Below w.heap.size w w' := by
  obtain ⟨kd, nm, sc⟩ := x
  go_enter Tryd.func20, Tryd.ntmps20
  go_wp2
  go_ret
  exact ⟨rfl, by repeat (first | exact Below.refl _ _ | apply Below.drew | refine Below.alloc ?_ (by simp <;> omega) _)⟩
/-- An item's three cells. -/
theorem HoldsItems.at {w : World} {oa : Option Addr} {xs : List It} (h : HoldsItems w oa xs) (hne : 0 < xs.length) : ∃ b off, oa = some ⟨b, off, none⟩ ∧ b < w.heap.size ∧ ∀ i x, xs[i]? = some x →
    w.cell? ⟨b, off + i * 3, none⟩ = some (.int .i64 x.kind) ∧ w.cell? ⟨b, off + i * 3 + 1, none⟩ = some (.string x.name) ∧ w.cell? ⟨b, off + i * 3 + 2, none⟩ = some (.int .i64 x.scope) := by
  rcases h with h | h
  · subst h; simp at hne
  · exact h
theorem HoldsScopes.at {w : World} {oa : Option Addr} {ss : List Sc} (h : HoldsScopes w oa ss) (hne : 0 < ss.length) : ∃ b off, oa = some ⟨b, off, none⟩ ∧ b < w.heap.size ∧ ∀ i s, ss[i]? = some s →
    ∃ (oi : Option Addr) (ci : Nat), w.cell? ⟨b, off + i * 2, none⟩ = some (.int .i64 s.parent) ∧ w.cell? ⟨b, off + i * 2 + 1, none⟩ = some (.slice oi s.items.length ci) ∧ HoldsItems w oi s.items := by
  rcases h with h | h
  · subst h; simp at hne
  · exact h
set_option maxRecDepth 100000 in
set_option maxHeartbeats 1600000 in
theorem eqItemS_same (xs : List It) (o1 o2 : Option Addr) (c1 c2 : Nat) (w : World) (hn : xs.length < 2 ^ 40) (k1 : HoldsItems w o1 xs) (k2 : HoldsItems w o2 xs) :
    Calls Tryd.prog 106 #[.slice o1 xs.length c1, .slice o2 xs.length c2] w fun e w' => e = .returned (.bool true) ∧ Below w.heap.size w w' := by
  have K1 := Lib.hid k1
  have K2 := Lib.hid k2
  clear k1 k2
  go_enter Tryd.func106, Tryd.ntmps106
  go_wp2
  go_loopw [5] (fun i wr => ∃ k : Nat, i = .int .i64 k ∧ k ≤ xs.length ∧ Below w.heap.size w wr) (fun i _ => xs.length - (intOf i).toNat)
  case atStart => exact ⟨0, rfl, Nat.zero_le _, Below.refl _ _⟩
  case round =>
    obtain ⟨k, rfl, hk, hb⟩ := hrel
    by_cases hlt : k < xs.length
    · obtain ⟨x, hx⟩ : ∃ x, xs[k]? = some x := ⟨_, List.getElem?_eq_getElem hlt⟩
      obtain ⟨b1, f1, rfl, hb1, q1⟩ := (K1.out.below hb (Nat.le_refl _)).at (by omega)
      obtain ⟨b2, f2, rfl, hb2, q2⟩ := (K2.out.below hb (Nat.le_refl _)).at (by omega)
      obtain ⟨a0, a1, a2⟩ := q1 k x hx
      obtain ⟨d0, d1, d2⟩ := q2 k x hx
      clear hx q1 q2
      have r0 := cell_regrown a0
      have r1 := cell_regrown a1
      have r2 := cell_regrown a2
      have r3 := cell_regrown d0
      have r4 := cell_regrown d1
      have r5 := cell_regrown d2
      have cE := fun d os => Calls.regrown_of (w := wr) (d := d) (os := os) (eqItem_same x _)
      clear a0 a1 a2 d0 d1 d2
      go_wp2_with fail
      refine wp_region_quiet_below (by kernel_rfl) (by kernel_rfl) ?_
      repeat (quiet_step (exact cE _ _))
      refine wpQuiet_nil ?_
      intro _ hw'
      obtain ⟨⟨dq, osq⟩, hw''⟩ := hw'
      subst hw''
      have hb' := hb.trans ((below_regrown wr dq osq).mono hb.size)
      go_wp2
      go_roundw
      case rel => exact ⟨k + 1, by go_num, by omega, hb'⟩
      case measure => simp only [intOf]; omega
    · go_wp2
      go_ret
      exact ⟨rfl, hb⟩
set_option maxRecDepth 100000 in
theorem eqScope_same (s : Sc) (o1 o2 : Option Addr) (c1 c2 : Nat) (w : World) (hn : s.items.length < 2 ^ 40) (k1 : HoldsItems w o1 s.items) (k2 : HoldsItems w o2 s.items) :
    Calls Tryd.prog 90 #[.agg #[.int .i64 s.parent, .slice o1 s.items.length c1], .agg #[.int .i64 s.parent, .slice o2 s.items.length c2]] w fun e w' => e = .returned (.bool true) ∧ Below w.heap.size w w' := by
  have C := Lib.hid (fun (w' : World) (hb : Below w.heap.size w w') => eqItemS_same s.items o1 o2 c1 c2 w' hn (k1.below hb (Nat.le_refl _)) (k2.below hb (Nat.le_refl _)))
  clear k1 k2
  go_enter Tryd.func90, Tryd.ntmps90
  go_wp2_with fail
  refine (C.out _ (by repeat (first | exact Below.refl _ _ | refine Below.alloc ?_ (by simp <;> omega) _))).mono ?_
  rintro e w1 ⟨rfl, hb⟩
  have HB := Lib.hid (show Below w.heap.size w w1 from (show Below w.heap.size w _ from by repeat (first | exact Below.refl _ _ | refine Below.alloc ?_ (by simp <;> omega) _)).trans (hb.mono (by simp; omega)))
  clear hb
  go_wp2
  go_ret
  exact ⟨rfl, HB.out⟩
set_option maxRecDepth 100000 in
set_option maxHeartbeats 1600000 in
theorem eqScopeS_same (ss : List Sc) (o1 o2 : Option Addr) (c1 c2 : Nat) (w : World) (hn : ss.length < 2 ^ 40) (hn2 : ∀ s ∈ ss, s.items.length < 2 ^ 40) (k1 : HoldsScopes w o1 ss) (k2 : HoldsScopes w o2 ss) :
    Calls Tryd.prog 58 #[.slice o1 ss.length c1, .slice o2 ss.length c2] w fun e w' => e = .returned (.bool true) ∧ Below w.heap.size w w' := by
  have K1 := Lib.hid k1
  have K2 := Lib.hid k2
  have HN := Lib.hid hn2
  clear k1 k2 hn2
  go_enter Tryd.func58, Tryd.ntmps58
  go_wp2
  go_loopw [5] (fun i wr => ∃ k : Nat, i = .int .i64 k ∧ k ≤ ss.length ∧ Below w.heap.size w wr) (fun i _ => ss.length - (intOf i).toNat)
  case atStart => exact ⟨0, rfl, Nat.zero_le _, Below.refl _ _⟩
  case round =>
    obtain ⟨k, rfl, hk, hb⟩ := hrel
    by_cases hlt : k < ss.length
    · obtain ⟨s, hs⟩ : ∃ s, ss[k]? = some s := ⟨_, List.getElem?_eq_getElem hlt⟩
      obtain ⟨b1, f1, rfl, hb1, q1⟩ := (K1.out.below hb (Nat.le_refl _)).at (by omega)
      obtain ⟨b2, f2, rfl, hb2, q2⟩ := (K2.out.below hb (Nat.le_refl _)).at (by omega)
      obtain ⟨oi, ci, a0, a1, a2⟩ := q1 k s hs
      obtain ⟨oj, cj, d0, d1, d2⟩ := q2 k s hs
      have cE := fun d os => Calls.regrown_of (w := wr) (d := d) (os := os) (eqScope_same s oi oj ci cj _ (HN.out s (List.mem_of_getElem? hs)) (a2.below (below_regrown wr d os) (Nat.le_refl _)) (d2.below (below_regrown wr d os) (Nat.le_refl _)))
      clear hs q1 q2 a2 d2
      have r0 := cell_regrown a0
      have r1 := cell_regrown a1
      have r3 := cell_regrown d0
      have r4 := cell_regrown d1
      clear a0 a1 d0 d1
      go_wp2_with fail
      refine wp_region_quiet_below (by kernel_rfl) (by kernel_rfl) ?_
      repeat (quiet_step (exact cE _ _))
      refine wpQuiet_nil ?_
      intro _ hw'
      obtain ⟨⟨dq, osq⟩, hw''⟩ := hw'
      subst hw''
      have hb' := hb.trans ((below_regrown wr dq osq).mono hb.size)
      go_wp2
      go_roundw
      case rel => exact ⟨k + 1, by go_num, by omega, hb'⟩
      case measure => simp only [intOf]; omega
    · go_wp2
      go_ret
      exact ⟨rfl, hb⟩
set_option maxRecDepth 100000 in
theorem eqGraph_same (ss : List Sc) (o1 o2 : Option Addr) (c1 c2 : Nat) (w : World) (hn : ss.length < 2 ^ 40) (hn2 : ∀ s ∈ ss, s.items.length < 2 ^ 40) (k1 : HoldsScopes w o1 ss) (k2 : HoldsScopes w o2 ss) :
    Calls Tryd.prog 21 #[.agg #[.slice o1 ss.length c1], .agg #[.slice o2 ss.length c2]] w fun e w' => e = .returned (.bool true) ∧ Below w.heap.size w w' := by
  have C := Lib.hid (fun (w' : World) (hb : Below w.heap.size w w') => eqScopeS_same ss o1 o2 c1 c2 w' hn hn2 (k1.below hb (Nat.le_refl _)) (k2.below hb (Nat.le_refl _)))
  clear k1 k2 hn2
  go_enter Tryd.func21, Tryd.ntmps21
  go_wp2_with fail
  refine (C.out _ (by repeat (first | exact Below.refl _ _ | refine Below.alloc ?_ (by simp <;> omega) _))).mono ?_
  rintro e w1 ⟨rfl, hb⟩
  have HB := Lib.hid (show Below w.heap.size w w1 from (show Below w.heap.size w _ from by repeat (first | exact Below.refl _ _ | refine Below.alloc ?_ (by simp <;> omega) _)).trans (hb.mono (by simp; omega)))
  clear hb
  go_wp2
  go_ret
  exact ⟨rfl, HB.out⟩
end Go.Proofs.YtlhlcdlkilpbhaaDoor
