/-
  The walks of the given l1Has, l1At and ItemAt, and of impl's ItemAt. Conditions: the argument's memory holds the graph; the package-level errors hold errors.
-/
import Derived.Test.YtcgdligjbkjkcaaDoorWSpecValid
import Derived.Test.YtcgdligjbkjkcaaDoorWImplValid
import Derived.Lib.QuietBelow
import Derived.IntWalk
import Derived.BigQuiet
namespace Go.Proofs.YtcgdligjbkjkcaaDoor
open Go Go.RowKit Go.Maps
/-- The item at a place. -/
def itemAtP (ss : List Sc) (a b : Int) : Option It := if 0 ≤ a ∧ 0 ≤ b then (ss[a.toNat]?).bind fun s => s.items[b.toNat]? else none
theorem itemAtP_nat {ss : List Sc} {i j : Nat} {s : Sc} (hs : ss[i]? = some s) : itemAtP ss (i : Int) (j : Int) = s.items[j]? := by
  unfold itemAtP
  rw [if_pos ⟨by omega, by omega⟩]
  simp [hs]
theorem itemAtP_out {ss : List Sc} {a b : Int} (h : inB a 0 ((ss.length : Int) - 1) = false) : itemAtP ss a b = none := by
  unfold itemAtP
  split
  · rename_i h0
    have : ¬ a ≤ (ss.length : Int) - 1 := by intro hle; simp [inB, h0.1, hle] at h
    rw [List.getElem?_eq_none (by omega)]; rfl
  · rfl
theorem itemAtP_out2 {ss : List Sc} {i : Nat} {s : Sc} {b : Int} (hs : ss[i]? = some s) (h : inB b 0 ((s.items.length : Int) - 1) = false) : itemAtP ss (i : Int) b = none := by
  unfold itemAtP
  split
  · rename_i h0
    have : ¬ b ≤ (s.items.length : Int) - 1 := by intro hle; simp [inB, h0.2, hle] at h
    simp only [Int.toNat_natCast, hs, Option.bind_some]
    rw [List.getElem?_eq_none (by omega)]
  · rfl
theorem l1In_below (n lo hi : Int) (w : World) : Calls Tryd.prog 30 #[.int .i64 n, .int .i64 lo, .int .i64 hi] w fun e w' => e = .returned (.bool (inB n lo hi)) ∧ Below w.heap.size w w' :=
  (l1In_any n lo hi w).mono fun _ _ ⟨h, k⟩ => ⟨h, by rw [k]; exact Below.refl _ _⟩
def itV (x : It) : Value := .agg #[.int .i64 x.kind, .string x.name, .int .i64 x.scope]
def zeroIt : It := ⟨0, ⟨#[]⟩, 0⟩
set_option maxRecDepth 100000 in
set_option maxHeartbeats 1000000 in
theorem specAt_any (ss : List Sc) (hf : FitsScopes ss) (oa : Option Addr) (cap : Nat) (i j : Nat) (s : Sc) (x : It) (hs : ss[i]? = some s) (hx : s.items[j]? = some x) (w : World) (hc : HoldsScopes w oa ss) :
    Calls Tryd.prog 34 #[.agg #[.slice oa ss.length cap], .agg #[.int .i64 (i : Int), .int .i64 (j : Int)]] w fun e w' => e = .returned (itV x) ∧ Below w.heap.size w w' := by
  have hi := (List.getElem?_eq_some_iff.1 hs).1
  have hj := (List.getElem?_eq_some_iff.1 hx).1
  have hl := hf.1
  have hl2 := (hf.2 s (List.mem_of_getElem? hs)).1
  have hb0 : Below w.heap.size w (((w.alloc (.cells #[.slice oa ss.length cap] 30)).alloc (.cells #[.int .i64 (i : Int), .int .i64 (j : Int)] 87)).alloc (.cells #[.int .i64 0, .string ⟨#[]⟩, .int .i64 0] 83)) := (((Below.refl _ _).alloc (Nat.le_refl _) _).alloc (by simp) _).alloc (by simp; omega) _
  obtain ⟨bb, off, rfl, hbb, hcell⟩ := hc.at (by omega)
  obtain ⟨oi, ci, a0, a1, hci⟩ := hcell i s hs
  obtain ⟨b2, o2, rfl, hb2, hcell2⟩ := hci.at (by omega)
  obtain ⟨x0, x1, x2⟩ := hcell2 j x hx
  have a1' := (hb0.cell (p := ⟨bb, off + i * 2 + 1, none⟩) hbb).trans a1
  have x0' := (hb0.cell (p := ⟨b2, o2 + j * 3, none⟩) hb2).trans x0
  have x1' := (hb0.cell (p := ⟨b2, o2 + j * 3 + 1, none⟩) hb2).trans x1
  have x2' := (hb0.cell (p := ⟨b2, o2 + j * 3 + 2, none⟩) hb2).trans x2
  have HB0 := Lib.hid hb0
  clear hf hc hcell hcell2 hci hs hx a0 a1 x0 x1 x2 hb0
  go_enter Tryd.func34, Tryd.ntmps34
  go_wp2
  go_region
  all_goals go_wp2
  refine bodyPost_ret (v := itV x) (by simp [results, Tryd.results34, go_sem, itV]) rfl ⟨rfl, ?_⟩
  first
    | exact ((((Below.refl w.heap.size w).alloc (Nat.le_refl _) _).alloc (by simp) _).alloc (by simp; omega) _).drew
    | exact HB0.out.drew.setCell (by simp) _
/-- What ItemAt answers. -/
def ItemGot (ss : List Sc) (a b : Int) (w : World) (e : Ending) (w' : World) : Prop :=
  ∃ (x : It) (ok : Bool), e = .returned (.tuple #[itV x, .bool ok]) ∧ ((Valid ss ∧ itemAtP ss a b = some x ∧ ok = true) ∨ (¬ (Valid ss ∧ (itemAtP ss a b).isSome = true) ∧ x = zeroIt ∧ ok = false)) ∧ Below w.heap.size w w'
/-- What the map of items says of a place. -/
theorem look_item {ss : List Sc} (h : Small ss) {a b : Int} (ha : (Lit.int .i64 a).wf = true) (hb : (Lit.int .i64 b).wf = true) :
    Maps.has (itemsD (placed 0 ss)) (plLit a b) = (itemAtP ss a b).isSome ∧ (itemsD (placed 0 ss)).atKey (plLit a b) (itemD zeroIt) = itemD ((itemAtP ss a b).getD zeroIt) := by
  have hh := itemsD_has h ha hb
  cases hx : itemAtP ss a b with
  | some x =>
    have hx' := hx
    unfold itemAtP at hx'
    split at hx'
    case isFalse => cases hx'
    rename_i h0
    obtain ⟨i, rfl⟩ : ∃ i : Nat, a = (i : Int) := ⟨a.toNat, by omega⟩
    obtain ⟨j, rfl⟩ : ∃ j : Nat, b = (j : Int) := ⟨b.toNat, by omega⟩
    simp only [Int.toNat_natCast] at hx'
    obtain ⟨s, hs, hj⟩ := Option.bind_eq_some_iff.1 hx'
    exact ⟨hh.2 ⟨i, j, s, x, rfl, rfl, hs, hj⟩, itemsD_at h hs hj _⟩
  | none =>
    have hno : ¬ ∃ (k j : Nat) (s : Sc) (x : It), a = (k : Int) ∧ b = (j : Int) ∧ ss[k]? = some s ∧ s.items[j]? = some x := by
      rintro ⟨k, j, s, x, rfl, rfl, hs, hj⟩
      rw [itemAtP_nat hs, hj] at hx
      cases hx
    refine ⟨by simpa using fun e => hno (hh.1 e), ?_⟩
    unfold itemsD
    rw [putInto_other plKey itVal (plLit a b) (itemD zeroIt) (placed 0 ss) (.map []) (fun q hq he => hno ?_)]
    · rfl
    · have h1 := h.lt hq
      obtain ⟨e1, e2⟩ := plLit_inj (wf_small h1.1) (wf_small h1.2) ha hb he
      obtain ⟨s, _, h2, h3⟩ := mem_placed.1 hq
      exact ⟨q.1, q.2.1, s, q.2.2, e1.symm, e2.symm, by simpa using h2, h3⟩
theorem itemR_eq {v : Value} {x : It} {ps : List MemPlace} (h : itemR v = some (itemD x, ps)) : v = itV x := by
  unfold itemR at h
  split at h
  · split at h
    · rename_i cs _ a s b he
      have hcs : cs = #[.int .i64 a, .string s, .int .i64 b] := by rw [← he]
      simp only [itemD, Option.some.injEq, Prod.mk.injEq, DataW.agg.injEq, List.cons.injEq, DataW.lit.injEq, Lit.int.injEq, Lit.string.injEq, true_and, and_true] at h
      obtain ⟨⟨h1, h2, h3⟩, _⟩ := h
      have hs : s = x.name := by apply ByteArray.ext; exact Array.toList_inj.1 h2
      rw [hcs, h1, hs, h3]; rfl
    · cases h
  · cases h
theorem zeroItem (w : World) : (zeroValue 83).run Tryd.prog w = .ok (itV zeroIt) w := by kernel_rfl
end Go.Proofs.YtcgdligjbkjkcaaDoor
