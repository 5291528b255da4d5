/-
  Chains of scopes, what lies within a scope, the innermost scope around two, modules of scopes, blocks, paths, as plain data. Plain facts. The contract of the iterator from a node outwards (impl's (*node).outward): the scope itself and all around it, whatever the loop's body does, as long as it leaves the cells that were there. The walks of impl's (*tree).node and nodeOf. Conditions: the argument's memory holds the graph; the package-level errors hold errors. The walk of impl's ChainOf: a scope and all around it, in a list of its own. Conditions: the argument's memory holds the graph; the package-level errors hold errors. The walks of the given l2Scope, l2Chain, ChainOf and ScopeDepth. Condition: the argument's memory holds the graph. The walks of the laws' eqIntS, markIntS, heldIntS: lists of numbers compared, marked, and found marked. Condition: the lists' memory is their own. The walk of the laws' markText: a short text comes back, and only new memory is written. Plain facts. The walks of the laws' markItemS, markScopeS, markGraph over a graph of one's own: a number from 0 on comes back, and no block turns but those of the graph. Plain facts. The walks of the laws' toPlace, eqPlace, eqPlaceS; lists of places in memory. Condition: the list has at most 2^20 places. The walks of the laws' eqPlaceS, markPlaceS, heldPlaceS: lists of places compared, marked, and found marked. Condition: the lists' memory is their own. The walks of the given l1Has, l1At and ItemAt, and of impl's ItemAt. Conditions: the argument's memory holds the graph; the package-level errors hold errors. What the walks of the exact laws over graphs share: the copies of a graph, their comparison, errors carried along. Plain facts. What the walks of the exact laws with a list of numbers and a truth share. Plain facts. What the walks of the exact laws with a list of places and a truth share. Plain facts.
-/
import Derived.Test.YtjogfagjcpcihaaGreatDoorBaseX
import Derived.Test.YtjogfagjcpcihaaGreatDoorTreeOfX
import Derived.Test.YtjogfagjcpcihaaGreatDoorWTreeOfX
import Derived.Test.YtjogfagjcpcihaaGreatDoorWImplValidX
import Derived.Maps.AppendAt
import Derived.RangeFuncBox
import Derived.Test.YtjogfagjcpcihaaGreatDoorWSpecValidX
import Derived.Laws.BytesArg
import Derived.Lib.ItoaLen
import Derived.Test.YtjogfagjcpcihaaGreatDoorWEqX
import Derived.Test.YtjogfagjcpcihaaGreatDoorPlacedX
import Derived.Test.YtjogfagjcpcihaaGreatDoorProg
import Derived.Lib.Hide
import Derived.Outline
import Derived.Deep.DeepCutAuto
import Derived.Deep.QuietTactic
import Derived.BigQuiet
import Derived.Lib.QuietBelow
import Derived.IntWalk
import Derived.Deep.RegionWith
namespace Go.Proofs.YtjogfagjcpcihaaGreatDoor
open Go Go.RowKit
end Go.Proofs.YtjogfagjcpcihaaGreatDoor
namespace Go.Proofs.YtjogfagjcpcihaaGreatDoor
open Go Go.RowKit Go.Maps
attribute [local go_sem] Oper.semAt_some
end Go.Proofs.YtjogfagjcpcihaaGreatDoor
namespace Go.Proofs.YtjogfagjcpcihaaGreatDoor
open Go Go.RowKit Go.Maps
end Go.Proofs.YtjogfagjcpcihaaGreatDoor
namespace Go.Proofs.YtjogfagjcpcihaaGreatDoor
open Go Go.RowKit Go.Maps
attribute [local go_sem] Oper.semAt_some
end Go.Proofs.YtjogfagjcpcihaaGreatDoor
namespace Go.Proofs.YtjogfagjcpcihaaGreatDoor
open Go Go.RowKit
theorem cell_drew {W : World} {p : Addr} {v : Value} (h : W.cell? p = some v) : W.drew.cell? p = some v := h
end Go.Proofs.YtjogfagjcpcihaaGreatDoor
namespace Go.Proofs.YtjogfagjcpcihaaGreatDoor
open Go Go.RowKit
end Go.Proofs.YtjogfagjcpcihaaGreatDoor
namespace Go.Proofs.YtjogfagjcpcihaaGreatDoor
open Go Go.RowKit
end Go.Proofs.YtjogfagjcpcihaaGreatDoor
namespace Go.Proofs.YtjogfagjcpcihaaGreatDoor
open Go Go.RowKit
end Go.Proofs.YtjogfagjcpcihaaGreatDoor
namespace Go.Proofs.YtjogfagjcpcihaaGreatDoor
open Go Go.RowKit
theorem infoPlace : (Tryz.prog.info? 26).map (fun i => (i.zero, i.size, i.bytes)) = some (some (.agg #[.int .i64 0, .int .i64 0]), 2, 16) := by kernel_rfl
/-- The places' cells. -/
def placeCells (ps : List (Int × Int)) : List Value := ps.flatMap fun p => [.int .i64 p.1, .int .i64 p.2]
/-- A slice whose cells hold places. -/
def HoldsPlaces (w : World) (b off : Nat) (ps : List (Int × Int)) : Prop :=
  ∀ i p, ps[i]? = some p → w.cell? ⟨b, off + i * 2, none⟩ = some (.int .i64 p.1) ∧ w.cell? ⟨b, off + i * 2 + 1, none⟩ = some (.int .i64 p.2)
theorem placeCells_snoc (ps : List (Int × Int)) (p : Int × Int) : placeCells (ps ++ [p]) = placeCells ps ++ [.int .i64 p.1, .int .i64 p.2] := by
  simp [placeCells]
theorem placeCells_at (ps : List (Int × Int)) : ∀ (i : Nat) (p : Int × Int), ps[i]? = some p → (placeCells ps)[i * 2]? = some (.int .i64 p.1) ∧ (placeCells ps)[i * 2 + 1]? = some (.int .i64 p.2) := by
  induction ps with
  | nil => intro i p h; simp at h
  | cons q r ih =>
    intro i p h
    have e : placeCells (q :: r) = .int .i64 q.1 :: .int .i64 q.2 :: placeCells r := rfl
    cases i with
    | zero => simp at h; subst h; rw [e]; simp
    | succ i =>
      have := ih i p (by simpa using h)
      rw [e, show (i + 1) * 2 = i * 2 + 1 + 1 from by omega]
      simpa using this
theorem HoldsPlaces.below {w w' : World} {b off B : Nat} {ps : List (Int × Int)} (h : HoldsPlaces w b off ps) (hb : Below B w w') (hB : b < B) : HoldsPlaces w' b off ps := by
  intro i p hp
  obtain ⟨h1, h2⟩ := h i p hp
  exact ⟨(hb.cell (p := ⟨b, _, none⟩) hB).trans h1, (hb.cell (p := ⟨b, _, none⟩) hB).trans h2⟩
/-- A slice of places that came in: nil, or its cells hold them. -/
def ArgPlaces (w : World) (oa : Option Addr) (ps : List (Int × Int)) : Prop :=
  ps = [] ∨ ∃ b off, oa = some ⟨b, off, none⟩ ∧ b < w.heap.size ∧ HoldsPlaces w b off ps
theorem ArgPlaces.below {w w' : World} {oa : Option Addr} {ps : List (Int × Int)} (h : ArgPlaces w oa ps) (hb : Below w.heap.size w w') : ArgPlaces w' oa ps := by
  rcases h with h | ⟨b, off, h1, h2, h3⟩
  · exact .inl h
  · exact .inr ⟨b, off, h1, Nat.lt_of_lt_of_le h2 hb.size, h3.below hb h2⟩
end Go.Proofs.YtjogfagjcpcihaaGreatDoor
namespace Go.Proofs.YtjogfagjcpcihaaGreatDoor
open Go Go.RowKit
theorem ArgPlaces.at {w : World} {oa : Option Addr} {ps : List (Int × Int)} (h : ArgPlaces w oa ps) (hne : 0 < ps.length) : ∃ b off, oa = some ⟨b, off, none⟩ ∧ b < w.heap.size ∧ HoldsPlaces w b off ps := by
  rcases h with h | h
  · subst h; simp at hne
  · exact h
theorem argPlaces_of_owns {w : World} {B : Nat} {v : Value} {ps : List (Int × Int)} (h : w.ownsRow B 26 2 v ps.length (placeCells ps)) : ∃ oa cap, v = .slice oa ps.length cap ∧ ArgPlaces w oa ps := by
  obtain ⟨hl, h2 | ⟨g, cap, cur, hv, hB, hh, hn, _, hs, ht⟩⟩ := h
  · exact ⟨none, 0, by rw [h2.1, h2.2], .inl (List.eq_nil_of_length_eq_zero h2.2)⟩
  · refine ⟨_, cap, hv, .inr ⟨g, 0, rfl, (Array.getElem?_eq_some_iff.1 hh).1, fun i p hp => ?_⟩⟩
    have hil := (List.getElem?_eq_some_iff.1 hp).1
    obtain ⟨h0, h1⟩ := placeCells_at ps i p hp
    rw [← ht] at h0 h1
    rw [List.getElem?_take_of_lt (by omega)] at h0 h1
    rw [Nat.zero_add]
    constructor
    · simp [World.cell?, hh]; simpa using h0
    · simp [World.cell?, hh]; simpa using h1
/-- A slice of places that was appended to by one, as the operation runs it where an order is drawn. -/
theorem infoPl : (Tryz.prog.info? 26).map (fun i => (i.zero, i.size, i.bytes)) = some (some (.agg #[.int .i64 0, .int .i64 0]), 2, 16) := infoPlace
theorem cells_new2 (w : World) (x y : Value) (t : TypeId) : ∀ (j : Nat) (u : Value), [x, y][j]? = some u → (w.alloc (.cells #[x, y] t)).cell? ((⟨w.heap.size, 0, none⟩ : Addr).add j) = some u := by
  intro j u hu
  have hR := Row.new w [x, y] t
  have h2 : (⟨w.heap.size, 0, none⟩ : Addr).add j = ⟨w.heap.size, j, none⟩ := by
    unfold Addr.add
    split <;> simp_all
  rw [h2]
  exact hR.cell hu
theorem below_append2 {W w' : World} {base k n size : Nat} {e : TypeId} {v : Value} {xs : List Value} {o : Obj} (hrow : W.ownsRow base e size v k xs) (hg : (W.alloc o).grownBy w' v.ownBlock) (hb : n ≤ base) (hW : n ≤ W.heap.size) : Below n W w' := by
  refine ((Below.refl n W).alloc hW o).grown hg (by simp; omega) (fun r e => ?_)
  obtain ⟨_, h2 | ⟨g', cap, cur, hv, hB, _, _⟩⟩ := hrow
  · rw [h2.1] at e; simp [Value.ownBlock] at e
  · rw [hv] at e; simp only [Value.ownBlock, Option.some.injEq] at e; omega
end Go.Proofs.YtjogfagjcpcihaaGreatDoor
namespace Go.Proofs.YtjogfagjcpcihaaGreatDoor
open Go Go.RowKit Go.Maps
/-- The item at a place. -/
def itemAtP (ss : List Sc) (a b : Int) : Option It := if 0 ≤ a ∧ 0 ≤ b then (ss[a.toNat]?).bind fun s => s.items[b.toNat]? else none
theorem itemAtP_nat {ss : List Sc} {i j : Nat} {s : Sc} (hs : ss[i]? = some s) : itemAtP ss (i : Int) (j : Int) = s.items[j]? := by
  unfold itemAtP
  rw [if_pos ⟨by omega, by omega⟩]
  simp [hs]
theorem itemAtP_out {ss : List Sc} {a b : Int} (h : inB a 0 ((ss.length : Int) - 1) = false) : itemAtP ss a b = none := by
  unfold itemAtP
  split
  · rename_i h0
    have : ¬ a ≤ (ss.length : Int) - 1 := by intro hle; simp [inB, h0.1, hle] at h
    rw [List.getElem?_eq_none (by omega)]; rfl
  · rfl
theorem itemAtP_out2 {ss : List Sc} {i : Nat} {s : Sc} {b : Int} (hs : ss[i]? = some s) (h : inB b 0 ((s.items.length : Int) - 1) = false) : itemAtP ss (i : Int) b = none := by
  unfold itemAtP
  split
  · rename_i h0
    have : ¬ b ≤ (s.items.length : Int) - 1 := by intro hle; simp [inB, h0.2, hle] at h
    simp only [Int.toNat_natCast, hs, Option.bind_some]
    rw [List.getElem?_eq_none (by omega)]
  · rfl
theorem l1In_below (n lo hi : Int) (w : World) : Calls Tryz.prog 90 #[.int .i64 n, .int .i64 lo, .int .i64 hi] w fun e w' => e = .returned (.bool (inB n lo hi)) ∧ Below w.heap.size w w' :=
  (l1In_any n lo hi w).mono fun _ _ ⟨h, k⟩ => ⟨h, by rw [k]; exact Below.refl _ _⟩
set_option maxRecDepth 100000 in
set_option maxHeartbeats 400000 in
theorem specHas_any (ss : List Sc) (hf : FitsScopes ss) (oa : Option Addr) (cap : Nat) (a b : Int) (w : World) (hc : HoldsScopes w oa ss) :
    Calls Tryz.prog 47 #[.agg #[.slice oa ss.length cap], .agg #[.int .i64 a, .int .i64 b]] w fun e w' => e = .returned (.bool (itemAtP ss a b).isSome) ∧ Below w.heap.size w w' := by
  have hb0 : Below w.heap.size w ((w.alloc (.cells #[.slice oa ss.length cap] 33)).alloc (.cells #[.int .i64 a, .int .i64 b] 26)) := ((Below.refl _ _).alloc (Nat.le_refl _) _).alloc (by simp) _
  have HB0 := Lib.hid hb0
  have HC := Lib.hid (hc.below hb0 (Nat.le_refl _))
  have hl := hf.1
  have HF := Lib.hid hf
  have RG := Lib.hid ((Row.new w [.slice oa ss.length cap] 33).alloc (.cells #[.int .i64 a, .int .i64 b] 26))
  have RP : Hid (Row ((w.alloc (.cells #[.slice oa ss.length cap] 33)).alloc (.cells #[.int .i64 a, .int .i64 b] 26)) (w.heap.size + 1) 26 [.int .i64 a, .int .i64 b]) := Lib.hid (by
    have := Row.new (w.alloc (.cells #[.slice oa ss.length cap] 33)) [.int .i64 a, .int .i64 b] 26
    rw [World.size_alloc] at this
    exact this)
  clear hf hc hb0
  cases h1 : inB a 0 ((ss.length : Int) - 1) with
  | false =>
    have HR : Hid ((itemAtP ss a b).isSome = false) := Lib.hid (by rw [itemAtP_out h1]; rfl)
    have C1 : ∀ W, Calls Tryz.prog 90 #[.int .i64 a, .int .i64 0, .int .i64 ((ss.length : Int) - 1)] W fun e w' => e = .returned (.bool false) ∧ Below W.heap.size W w' := fun W => by rw [← h1]; exact l1In_below _ _ _ _
    have HC1 := Lib.hid C1
    have hw1 : IntKind.i64.wrap (((ss.length : Nat) : Int) - 1) = ((ss.length : Nat) : Int) - 1 := IntWalk.i64_in _ (by omega)
    clear C1 h1
    go_enter Tryz.func47, Tryz.ntmps47
    go_wp2
    have g0 := cell_regrown (RG.out.cell (i := 0) (by rfl))
    have p0 := cell_regrown (RP.out.cell (i := 0) (by rfl))
    have cE := fun d os => Calls.regrown_of (w := (w.alloc (.cells #[.slice oa ss.length cap] 33)).alloc (.cells #[.int .i64 a, .int .i64 b] 26)) (d := d) (os := os) (HC1.out _)
    refine wp_region_quiet_below (by kernel_rfl) (by kernel_rfl) ?_
    repeat (first | go_big_quiet_step (exact cE _ _) | quiet_step (exact cE _ _))
    refine wpQuiet_nil ?_
    intro _ hw'
    obtain ⟨⟨dq, osq⟩, hw''⟩ := hw'
    subst hw''
    have HBE := Lib.hid (HB0.out.trans ((below_regrown ((w.alloc (.cells #[.slice oa ss.length cap] 33)).alloc (.cells #[.int .i64 a, .int .i64 b] 26)) dq osq).mono HB0.out.size))
    go_wp2
    go_ret
    exact ⟨by rw [HR.out]; rfl, HBE.out⟩
  | true =>
    obtain ⟨i, rfl⟩ : ∃ i : Nat, a = (i : Int) := ⟨a.toNat, by simp [inB] at h1; omega⟩
    have hi : i < ss.length := by simp [inB] at h1; omega
    obtain ⟨s, hs⟩ : ∃ s, ss[i]? = some s := ⟨_, List.getElem?_eq_getElem hi⟩
    obtain ⟨bb, off, rfl, hbb, hcell⟩ := HC.out.at (by omega)
    obtain ⟨oi, ci, a0, a1, -⟩ := hcell i s hs
    have hsl := (HF.out.2 s (List.mem_of_getElem? hs)).1
    have HR : Hid ((itemAtP ss (i : Int) b).isSome = inB b 0 ((s.items.length : Int) - 1)) := Lib.hid (by
      cases h2 : inB b 0 ((s.items.length : Int) - 1) with
      | false => rw [itemAtP_out2 hs h2]; rfl
      | true =>
        simp only [inB, Bool.and_eq_true, decide_eq_true_eq] at h2
        obtain ⟨j, rfl⟩ : ∃ j : Nat, b = (j : Int) := ⟨b.toNat, by omega⟩
        rw [itemAtP_nat hs, List.getElem?_eq_getElem (by omega)]; rfl)
    have C1 : ∀ W, Calls Tryz.prog 90 #[.int .i64 (i : Int), .int .i64 0, .int .i64 ((ss.length : Int) - 1)] W fun e w' => e = .returned (.bool true) ∧ Below W.heap.size W w' := fun W => by rw [← h1]; exact l1In_below _ _ _ _
    have HC1 := Lib.hid C1
    have hw1 : IntKind.i64.wrap (((ss.length : Nat) : Int) - 1) = ((ss.length : Nat) : Int) - 1 := IntWalk.i64_in _ (by omega)
    have hw2 : IntKind.i64.wrap (((s.items.length : Nat) : Int) - 1) = ((s.items.length : Nat) : Int) - 1 := IntWalk.i64_in _ (by omega)
    have HS := Lib.hid hs
    clear C1 h1 hcell hs
    generalize hq : inB b 0 ((s.items.length : Int) - 1) = q at HR
    have C2 : ∀ W, Calls Tryz.prog 90 #[.int .i64 b, .int .i64 0, .int .i64 ((s.items.length : Int) - 1)] W fun e w' => e = .returned (.bool q) ∧ Below W.heap.size W w' := fun W => by rw [← hq]; exact l1In_below _ _ _ _
    have HC2 := Lib.hid C2
    clear C2 hq
    go_enter Tryz.func47, Tryz.ntmps47
    go_wp2
    have g0 := cell_regrown (RG.out.cell (i := 0) (by rfl))
    have p0 := cell_regrown (RP.out.cell (i := 0) (by rfl))
    have p1 := cell_regrown (RP.out.cell (i := 1) (by rfl))
    have s1 := cell_regrown a1
    have cE := fun d os => Calls.regrown_of (w := (w.alloc (.cells #[.slice (some ⟨bb, off, none⟩) ss.length cap] 33)).alloc (.cells #[.int .i64 (i : Int), .int .i64 b] 26)) (d := d) (os := os) (HC1.out _)
    have cF := fun d os => Calls.regrown_of (w := (w.alloc (.cells #[.slice (some ⟨bb, off, none⟩) ss.length cap] 33)).alloc (.cells #[.int .i64 (i : Int), .int .i64 b] 26)) (d := d) (os := os) (HC2.out _)
    clear a0 a1
    refine wp_region_quiet_below (by kernel_rfl) (by kernel_rfl) ?_
    repeat (first | go_big_quiet_step (with_reducible first | exact cE _ _ | exact cF _ _) | quiet_step (with_reducible first | exact cE _ _ | exact cF _ _))
    refine wpQuiet_nil ?_
    intro _ hw'
    obtain ⟨⟨dq, osq⟩, hw''⟩ := hw'
    subst hw''
    have HBE := Lib.hid (HB0.out.trans ((below_regrown ((w.alloc (.cells #[.slice (some ⟨bb, off, none⟩) ss.length cap] 33)).alloc (.cells #[.int .i64 (i : Int), .int .i64 b] 26)) dq osq).mono HB0.out.size))
    go_wp2
    go_ret
    exact ⟨by rw [HR.out]; rfl, HBE.out⟩
def itV (x : It) : Value := .agg #[.int .i64 x.kind, .string x.name, .int .i64 x.scope]
def zeroIt : It := ⟨0, ⟨#[]⟩, 0⟩
set_option maxRecDepth 100000 in
set_option maxHeartbeats 1000000 in
theorem specAt_any (ss : List Sc) (hf : FitsScopes ss) (oa : Option Addr) (cap : Nat) (i j : Nat) (s : Sc) (x : It) (hs : ss[i]? = some s) (hx : s.items[j]? = some x) (w : World) (hc : HoldsScopes w oa ss) :
    Calls Tryz.prog 48 #[.agg #[.slice oa ss.length cap], .agg #[.int .i64 (i : Int), .int .i64 (j : Int)]] w fun e w' => e = .returned (itV x) ∧ Below w.heap.size w w' := by
  have hi := (List.getElem?_eq_some_iff.1 hs).1
  have hj := (List.getElem?_eq_some_iff.1 hx).1
  have hl := hf.1
  have hl2 := (hf.2 s (List.mem_of_getElem? hs)).1
  have hb0 : Below w.heap.size w (((w.alloc (.cells #[.slice oa ss.length cap] 33)).alloc (.cells #[.int .i64 (i : Int), .int .i64 (j : Int)] 26)).alloc (.cells #[.int .i64 0, .string ⟨#[]⟩, .int .i64 0] 37)) := (((Below.refl _ _).alloc (Nat.le_refl _) _).alloc (by simp) _).alloc (by simp; omega) _
  obtain ⟨bb, off, rfl, hbb, hcell⟩ := hc.at (by omega)
  obtain ⟨oi, ci, a0, a1, hci⟩ := hcell i s hs
  obtain ⟨b2, o2, rfl, hb2, hcell2⟩ := hci.at (by omega)
  obtain ⟨x0, x1, x2⟩ := hcell2 j x hx
  have a1' := (hb0.cell (p := ⟨bb, off + i * 2 + 1, none⟩) hbb).trans a1
  have x0' := (hb0.cell (p := ⟨b2, o2 + j * 3, none⟩) hb2).trans x0
  have x1' := (hb0.cell (p := ⟨b2, o2 + j * 3 + 1, none⟩) hb2).trans x1
  have x2' := (hb0.cell (p := ⟨b2, o2 + j * 3 + 2, none⟩) hb2).trans x2
  have HB0 := Lib.hid hb0
  clear hf hc hcell hcell2 hci hs hx a0 a1 x0 x1 x2 hb0
  go_enter Tryz.func48, Tryz.ntmps48
  go_wp2
  go_region
  all_goals go_wp2
  refine bodyPost_ret (v := itV x) (by simp [results, Tryz.results48, go_sem, itV]) rfl ⟨rfl, ?_⟩
  first
    | exact ((((Below.refl w.heap.size w).alloc (Nat.le_refl _) _).alloc (by simp) _).alloc (by simp; omega) _).drew
    | exact HB0.out.drew.setCell (by simp) _
/-- What ItemAt answers. -/
def ItemGot (ss : List Sc) (a b : Int) (w : World) (e : Ending) (w' : World) : Prop :=
  ∃ (x : It) (ok : Bool), e = .returned (.tuple #[itV x, .bool ok]) ∧ ((Valid ss ∧ itemAtP ss a b = some x ∧ ok = true) ∨ (¬ (Valid ss ∧ (itemAtP ss a b).isSome = true) ∧ x = zeroIt ∧ ok = false)) ∧ Below w.heap.size w w'
set_option maxRecDepth 100000 in
set_option maxHeartbeats 1000000 in
theorem specItemAt_any (ss : List Sc) (hf : FitsScopes ss) (oa : Option Addr) (cap : Nat) (a b : Int) (w : World) (hc : HoldsScopes w oa ss) :
    Calls Tryz.prog 13 #[.agg #[.slice oa ss.length cap], .agg #[.int .i64 a, .int .i64 b]] w (ItemGot ss a b w) := by
  have hb0 : Below w.heap.size w (((w.alloc (.cells #[.slice oa ss.length cap] 33)).alloc (.cells #[.int .i64 a, .int .i64 b] 26)).alloc (.cells #[.int .i64 0, .string ⟨#[]⟩, .int .i64 0] 37)) := (((Below.refl _ _).alloc (Nat.le_refl _) _).alloc (by simp) _).alloc (by simp; omega) _
  have C := Lib.hid (specValid_any ss oa cap _ hf (hc.below hb0 (Nat.le_refl _)))
  have HB0 := Lib.hid hb0
  have HC := Lib.hid hc
  have HF := Lib.hid hf
  have RG := Lib.hid (((Row.new w [.slice oa ss.length cap] 33).alloc (.cells #[.int .i64 a, .int .i64 b] 26)).alloc (.cells #[.int .i64 0, .string ⟨#[]⟩, .int .i64 0] 37))
  have RP : Hid (Row (((w.alloc (.cells #[.slice oa ss.length cap] 33)).alloc (.cells #[.int .i64 a, .int .i64 b] 26)).alloc (.cells #[.int .i64 0, .string ⟨#[]⟩, .int .i64 0] 37)) (w.heap.size + 1) 26 [.int .i64 a, .int .i64 b]) := Lib.hid (by
    have := (Row.new (w.alloc (.cells #[.slice oa ss.length cap] 33)) [.int .i64 a, .int .i64 b] 26).alloc (.cells #[.int .i64 0, .string ⟨#[]⟩, .int .i64 0] 37)
    rw [World.size_alloc] at this
    exact this)
  have RR : Hid (Row (((w.alloc (.cells #[.slice oa ss.length cap] 33)).alloc (.cells #[.int .i64 a, .int .i64 b] 26)).alloc (.cells #[.int .i64 0, .string ⟨#[]⟩, .int .i64 0] 37)) (w.heap.size + 2) 37 [.int .i64 0, .string ⟨#[]⟩, .int .i64 0]) := Lib.hid (by
    have := Row.new ((w.alloc (.cells #[.slice oa ss.length cap] 33)).alloc (.cells #[.int .i64 a, .int .i64 b] 26)) [.int .i64 0, .string ⟨#[]⟩, .int .i64 0] 37
    simp only [World.size_alloc] at this
    exact this)
  clear hf hc hb0
  go_enter Tryz.func13, Tryz.ntmps13
  go_wp2_with fail
  refine C.out.mono ?_
  rintro e w1 ⟨v, rfl, hv, hb⟩
  have HB := Lib.hid (HB0.out.trans (hb.mono HB0.out.size))
  have RG1 := Lib.hid (RG.out.below hb RG.out.lt)
  have RP1 := Lib.hid (RP.out.below hb RP.out.lt)
  have RR1 := Lib.hid (RR.out.below hb RR.out.lt)
  have HV := Lib.hid hv
  have g1 := RG1.out.cell (i := 0) (by rfl)
  have p0 := RP1.out.cell (i := 0) (by rfl)
  have p1 := RP1.out.cell (i := 1) (by rfl)
  clear hb hv
  cases v
  · have HN : Hid (¬ (Valid ss ∧ (itemAtP ss a b).isSome = true)) := Lib.hid (fun h => by have := HV.out.2 h.1; cases this)
    have r0 : w1.cell? ⟨w.heap.size + 1 + 1, 0, none⟩ = some (.int .i64 0) := RR1.out.cell (i := 0) (by rfl)
    have r1 : w1.cell? ⟨w.heap.size + 1 + 1, 1, none⟩ = some (.string ⟨#[]⟩) := RR1.out.cell (i := 1) (by rfl)
    have r2 : w1.cell? ⟨w.heap.size + 1 + 1, 2, none⟩ = some (.int .i64 0) := RR1.out.cell (i := 2) (by rfl)
    have f0 : ∀ k, w1.frozen? ⟨w.heap.size + 1 + 1, k, none⟩ = false := fun k => RR1.out.frozen k
    go_wp2
    refine bodyPost_ret (v := .tuple #[itV zeroIt, .bool false]) (by simp [results, Tryz.results13, go_sem, itV, zeroIt, r0, r1, r2]) rfl ⟨zeroIt, false, rfl, .inr ⟨HN.out, rfl, rfl⟩, ?_⟩
    exact ((HB.out.setCell (by simp; omega) _).setCell (by simp; omega) _).setCell (by simp; omega) _
  · have C2 := Lib.hid (specHas_any ss HF.out oa cap a b _ (HC.out.below HB.out (Nat.le_refl _)))
    go_wp2_with fail
    refine C2.out.mono ?_
    rintro e w2 ⟨rfl, hb2⟩
    have HB2 := Lib.hid (HB.out.trans (hb2.mono HB.out.size))
    have RG2 := Lib.hid (RG1.out.below hb2 RG1.out.lt)
    have RP2 := Lib.hid (RP1.out.below hb2 RP1.out.lt)
    have RR2 := Lib.hid (RR1.out.below hb2 RR1.out.lt)
    have g2 := RG2.out.cell (i := 0) (by rfl)
    have q0 := RP2.out.cell (i := 0) (by rfl)
    have q1 := RP2.out.cell (i := 1) (by rfl)
    clear hb2 g1 p0 p1
    cases hx : itemAtP ss a b with
    | none =>
      have HN : Hid (¬ (Valid ss ∧ (itemAtP ss a b).isSome = true)) := Lib.hid (fun h => by rw [hx] at h; simp at h)
      have r0 : w2.cell? ⟨w.heap.size + 1 + 1, 0, none⟩ = some (.int .i64 0) := RR2.out.cell (i := 0) (by rfl)
      have r1 : w2.cell? ⟨w.heap.size + 1 + 1, 1, none⟩ = some (.string ⟨#[]⟩) := RR2.out.cell (i := 1) (by rfl)
      have r2 : w2.cell? ⟨w.heap.size + 1 + 1, 2, none⟩ = some (.int .i64 0) := RR2.out.cell (i := 2) (by rfl)
      have f0 : ∀ k, w2.frozen? ⟨w.heap.size + 1 + 1, k, none⟩ = false := fun k => RR2.out.frozen k
      simp only [Option.isSome_none]
      clear hx
      go_wp2
      refine bodyPost_ret (v := .tuple #[itV zeroIt, .bool false]) (by simp [results, Tryz.results13, go_sem, itV, zeroIt, r0, r1, r2]) rfl ⟨zeroIt, false, rfl, .inr ⟨HN.out, rfl, rfl⟩, ?_⟩
      exact ((HB2.out.setCell (by simp; omega) _).setCell (by simp; omega) _).setCell (by simp; omega) _
    | some x =>
      have HX := Lib.hid hx
      have hx' := hx
      unfold itemAtP at hx'
      split at hx'
      case isFalse => cases hx'
      rename_i h0
      obtain ⟨i, rfl⟩ : ∃ i : Nat, a = (i : Int) := ⟨a.toNat, by omega⟩
      obtain ⟨j, rfl⟩ : ∃ j : Nat, b = (j : Int) := ⟨b.toNat, by omega⟩
      simp only [Int.toNat_natCast] at hx'
      obtain ⟨s, hs, hj⟩ := Option.bind_eq_some_iff.1 hx'
      have C3 := Lib.hid (specAt_any ss HF.out oa cap i j s x hs hj _ (HC.out.below HB2.out (Nat.le_refl _)))
      have r0 : w2.cell? ⟨w.heap.size + 1 + 1, 0, none⟩ = some (.int .i64 0) := RR2.out.cell (i := 0) (by rfl)
      simp only [Option.isSome_some]
      clear hx hx' hs hj h0
      go_wp2_with fail
      refine C3.out.mono ?_
      rintro e w3 ⟨rfl, hb3⟩
      have HB3 := Lib.hid (HB2.out.trans (hb3.mono HB2.out.size))
      have RR3 := Lib.hid (RR2.out.below hb3 RR2.out.lt)
      have t0 : w3.cell? ⟨w.heap.size + 1 + 1, 0, none⟩ = some (.int .i64 0) := RR3.out.cell (i := 0) (by rfl)
      have t1 : w3.cell? ⟨w.heap.size + 1 + 1, 1, none⟩ = some (.string ⟨#[]⟩) := RR3.out.cell (i := 1) (by rfl)
      have t2 : w3.cell? ⟨w.heap.size + 1 + 1, 2, none⟩ = some (.int .i64 0) := RR3.out.cell (i := 2) (by rfl)
      have f0 : ∀ k, w3.frozen? ⟨w.heap.size + 1 + 1, k, none⟩ = false := fun k => RR3.out.frozen k
      clear hb3
      unfold itV
      go_wp2
      refine bodyPost_ret (v := .tuple #[itV x, .bool true]) (by simp [results, Tryz.results13, go_sem, itV, t0, t1, t2]) rfl ⟨x, true, rfl, .inl ⟨HV.out.1 (by first | trivial | rfl), HX.out, rfl⟩, ?_⟩
      exact ((HB3.out.setCell (by simp; omega) _).setCell (by simp; omega) _).setCell (by simp; omega) _
/-- What the map of items says of a place. -/
theorem look_item {ss : List Sc} (h : Small ss) {a b : Int} (ha : (Lit.int .i64 a).wf = true) (hb : (Lit.int .i64 b).wf = true) :
    Maps.has (itemsD (placed 0 ss)) (plLit a b) = (itemAtP ss a b).isSome ∧ (itemsD (placed 0 ss)).atKey (plLit a b) (itemD zeroIt) = itemD ((itemAtP ss a b).getD zeroIt) := by
  have hh := itemsD_has h ha hb
  cases hx : itemAtP ss a b with
  | some x =>
    have hx' := hx
    unfold itemAtP at hx'
    split at hx'
    case isFalse => cases hx'
    rename_i h0
    obtain ⟨i, rfl⟩ : ∃ i : Nat, a = (i : Int) := ⟨a.toNat, by omega⟩
    obtain ⟨j, rfl⟩ : ∃ j : Nat, b = (j : Int) := ⟨b.toNat, by omega⟩
    simp only [Int.toNat_natCast] at hx'
    obtain ⟨s, hs, hj⟩ := Option.bind_eq_some_iff.1 hx'
    exact ⟨hh.2 ⟨i, j, s, x, rfl, rfl, hs, hj⟩, itemsD_at h hs hj _⟩
  | none =>
    have hno : ¬ ∃ (k j : Nat) (s : Sc) (x : It), a = (k : Int) ∧ b = (j : Int) ∧ ss[k]? = some s ∧ s.items[j]? = some x := by
      rintro ⟨k, j, s, x, rfl, rfl, hs, hj⟩
      rw [itemAtP_nat hs, hj] at hx
      cases hx
    refine ⟨by simpa using fun e => hno (hh.1 e), ?_⟩
    unfold itemsD
    rw [putInto_other plKey itVal (plLit a b) (itemD zeroIt) (placed 0 ss) (.map []) (fun q hq he => hno ?_)]
    · rfl
    · have h1 := h.lt hq
      obtain ⟨e1, e2⟩ := plLit_inj (wf_small h1.1) (wf_small h1.2) ha hb he
      obtain ⟨s, _, h2, h3⟩ := mem_placed.1 hq
      exact ⟨q.1, q.2.1, s, q.2.2, e1.symm, e2.symm, by simpa using h2, h3⟩
theorem itemR_eq {v : Value} {x : It} {ps : List MemPlace} (h : itemR v = some (itemD x, ps)) : v = itV x := by
  unfold itemR at h
  split at h
  · split at h
    · rename_i cs _ a s b he
      have hcs : cs = #[.int .i64 a, .string s, .int .i64 b] := by rw [← he]
      simp only [itemD, Option.some.injEq, Prod.mk.injEq, DataW.agg.injEq, List.cons.injEq, DataW.lit.injEq, Lit.int.injEq, Lit.string.injEq, true_and, and_true] at h
      obtain ⟨⟨h1, h2, h3⟩, _⟩ := h
      have hs : s = x.name := by apply ByteArray.ext; exact Array.toList_inj.1 h2
      rw [hcs, h1, hs, h3]; rfl
    · cases h
  · cases h
theorem zeroItem (w : World) : (zeroValue 37).run Tryz.prog w = .ok (itV zeroIt) w := by kernel_rfl
set_option maxRecDepth 100000 in
set_option maxHeartbeats 1600000 in
theorem implItemAt_any (ss : List Sc) (hF : Fair ss) (oa : Option Addr) (cap : Nat) (a b : Int) (ha : (Lit.int .i64 a).wf = true) (hb' : (Lit.int .i64 b).wf = true) (w : World) (hc : HoldsScopes w oa ss) (hE : TreeErrs w) :
    Calls Tryz.prog 12 #[.agg #[.slice oa ss.length cap], .agg #[.int .i64 a, .int .i64 b]] w (ItemGot ss a b w) := by
  have hb0 : Below w.heap.size w (((w.alloc (.cells #[.slice oa ss.length cap] 33)).alloc (.cells #[.int .i64 a, .int .i64 b] 26)).alloc (.cells #[.int .i64 0, .string ⟨#[]⟩, .int .i64 0] 37)) := (((Below.refl _ _).alloc (Nat.le_refl _) _).alloc (by simp) _).alloc (by simp; omega) _
  have C := Lib.hid (hF.tree oa cap _ (hc.below hb0 (Nat.le_refl _)) (hE.below hb0 hE.size))
  have HB0 := Lib.hid hb0
  have RP : Hid (Row (((w.alloc (.cells #[.slice oa ss.length cap] 33)).alloc (.cells #[.int .i64 a, .int .i64 b] 26)).alloc (.cells #[.int .i64 0, .string ⟨#[]⟩, .int .i64 0] 37)) (w.heap.size + 1) 26 [.int .i64 a, .int .i64 b]) := Lib.hid (by
    have := (Row.new (w.alloc (.cells #[.slice oa ss.length cap] 33)) [.int .i64 a, .int .i64 b] 26).alloc (.cells #[.int .i64 0, .string ⟨#[]⟩, .int .i64 0] 37)
    rw [World.size_alloc] at this
    exact this)
  have RR : Hid (Row (((w.alloc (.cells #[.slice oa ss.length cap] 33)).alloc (.cells #[.int .i64 a, .int .i64 b] 26)).alloc (.cells #[.int .i64 0, .string ⟨#[]⟩, .int .i64 0] 37)) (w.heap.size + 2) 37 [.int .i64 0, .string ⟨#[]⟩, .int .i64 0]) := Lib.hid (by
    have := Row.new ((w.alloc (.cells #[.slice oa ss.length cap] 33)).alloc (.cells #[.int .i64 a, .int .i64 b] 26)) [.int .i64 0, .string ⟨#[]⟩, .int .i64 0] 37
    simp only [World.size_alloc] at this
    exact this)
  have HWF := Lib.hid (And.intro ha hb')
  clear hF hc hE hb0 ha hb'
  go_enter Tryz.func12, Tryz.ntmps12
  go_wp2_with fail
  refine C.out.mono ?_
  rintro e w1 (⟨hv, ⟨tp, p, rfl⟩, hb⟩ | ⟨hv, T, M1, M2, v, ds, rfl, hb, hT⟩)
  · have HB := Lib.hid (HB0.out.trans (hb.mono HB0.out.size))
    have RR1 := Lib.hid (RR.out.below hb RR.out.lt)
    have HN : Hid (¬ (Valid ss ∧ (itemAtP ss a b).isSome = true)) := Lib.hid (fun h => hv h.1)
    have r0 : w1.cell? ⟨w.heap.size + 1 + 1, 0, none⟩ = some (.int .i64 0) := RR1.out.cell (i := 0) (by rfl)
    have r1 : w1.cell? ⟨w.heap.size + 1 + 1, 1, none⟩ = some (.string ⟨#[]⟩) := RR1.out.cell (i := 1) (by rfl)
    have r2 : w1.cell? ⟨w.heap.size + 1 + 1, 2, none⟩ = some (.int .i64 0) := RR1.out.cell (i := 2) (by rfl)
    have f0 : ∀ k, w1.frozen? ⟨w.heap.size + 1 + 1, k, none⟩ = false := fun k => RR1.out.frozen k
    clear hv hb
    go_wp2
    refine bodyPost_ret (v := .tuple #[itV zeroIt, .bool false]) (by simp [results, Tryz.results12, go_sem, itV, zeroIt, r0, r1, r2]) rfl ⟨zeroIt, false, rfl, .inr ⟨HN.out, rfl, rfl⟩, ?_⟩
    exact ((HB.out.setCell (by simp; omega) _).setCell (by simp; omega) _).setCell (by simp; omega) _
  · have HB := Lib.hid (HB0.out.trans (hb.mono HB0.out.size))
    have RR1 := Lib.hid (RR.out.below hb RR.out.lt)
    have RP1 := Lib.hid (RP.out.below hb RP.out.lt)
    obtain ⟨hhas, hat⟩ := look_item hv.small HWF.out.1 HWF.out.2
    obtain ⟨n1, hm⟩ := hT.items
    obtain ⟨v1, ps, hrun, hv1⟩ := (ownsMap_below hm ((Below.refl _ _).drew)).look_ok (t := 80) (e := 37) placeLaw Tryz.underlying80 (zeroItem _) (itemR_mk zeroIt) (pl_key HWF.out.1 HWF.out.2)
    have hbA := ((Below.refl w1.heap.size w1).alloc (Nat.le_refl _) (.cells #[.int .i64 0, .string ⟨#[]⟩, .int .i64 0] 37)).drew
    obtain ⟨v2, ps2, hrun2, hv2⟩ := (ownsMap_below hm hbA).look_ok (t := 80) (e := 37) placeLaw Tryz.underlying80 (zeroItem _) (itemR_mk zeroIt) (pl_key HWF.out.1 HWF.out.2)
    rw [hat] at hv1 hv2
    obtain rfl := itemR_eq hv1
    obtain rfl := itemR_eq hv2
    rw [hhas] at hrun hrun2
    have T1 := hT.tree.box
    have t1 := T1.cell (i := 1) (by rfl)
    have t1' := (((Below.refl _ _).drew).cell (p := ⟨T, 1, none⟩) T1.lt).trans t1
    have t1A := (hbA.cell (p := ⟨T, 1, none⟩) T1.lt).trans t1
    have p0 := RP1.out.cell (i := 0) (by rfl)
    have p1 := RP1.out.cell (i := 1) (by rfl)
    have p0A := (hbA.cell (p := ⟨w.heap.size + 1, 0, none⟩) RP1.out.lt).trans p0
    have p1A := (hbA.cell (p := ⟨w.heap.size + 1, 1, none⟩) RP1.out.lt).trans p1
    have HV := Lib.hid hv
    have hres : Hid ((Valid ss ∧ itemAtP ss a b = some ((itemAtP ss a b).getD zeroIt) ∧ (itemAtP ss a b).isSome = true) ∨ (¬ (Valid ss ∧ (itemAtP ss a b).isSome = true) ∧ (itemAtP ss a b).getD zeroIt = zeroIt ∧ (itemAtP ss a b).isSome = false)) := Lib.hid (by
      cases hx : itemAtP ss a b with
      | none => exact .inr ⟨(fun h => by cases h.2), rfl, rfl⟩
      | some x => exact .inl ⟨hv, rfl, rfl⟩)
    clear hb hhas hat hv1 hv2 hT hm hbA T1 hv
    generalize hq : (itemAtP ss a b).isSome = ok at hrun hrun2
    generalize hq2 : (itemAtP ss a b).getD zeroIt = x at hrun hrun2
    have HQ := Lib.hid (And.intro hq hq2)
    clear hq hq2
    unfold itV at hrun hrun2
    go_wp2
    go_cut [8, 9] (fun s8 s9 wx => s9 = .bool ok ∧ ∃ g, s8 = .pointer (some ⟨g, 0, none⟩) ∧ w1.heap.size ≤ g ∧ Row wx g 37 [.int .i64 x.kind, .string x.name, .int .i64 x.scope] ∧ Below w1.heap.size w1 wx)
    case first =>
      go_region
      all_goals go_wp2
      all_goals go_meet
      all_goals exact ⟨rfl, _, rfl, Nat.le_refl _, Row.new w1 [.int .i64 x.kind, .string x.name, .int .i64 x.scope] 37, ((Below.refl _ _).alloc (Nat.le_refl _) _).drew⟩
    case rest =>
      obtain ⟨rfl, g, rfl, hg, hrow, hbc⟩ := hcut
      have HBC := Lib.hid (HB.out.trans (hbc.mono HB.out.size))
      have RR2 := Lib.hid (RR1.out.below hbc RR1.out.lt)
      have k0 := hrow.cell (i := 0) (by rfl)
      have k1 := hrow.cell (i := 1) (by rfl)
      have k2 := hrow.cell (i := 2) (by rfl)
      have r0 : wc.cell? ⟨w.heap.size + 1 + 1, 0, none⟩ = some (.int .i64 0) := RR2.out.cell (i := 0) (by rfl)
      have r1 : wc.cell? ⟨w.heap.size + 1 + 1, 1, none⟩ = some (.string ⟨#[]⟩) := RR2.out.cell (i := 1) (by rfl)
      have r2 : wc.cell? ⟨w.heap.size + 1 + 1, 2, none⟩ = some (.int .i64 0) := RR2.out.cell (i := 2) (by rfl)
      have f0 : ∀ k, wc.frozen? ⟨w.heap.size + 1 + 1, k, none⟩ = false := fun k => RR2.out.frozen k
      clear hrun hrun2 t1 t1' t1A p0 p1 p0A p1A hrow hbc
      go_wp2
      refine bodyPost_ret (v := .tuple #[itV x, .bool ok]) (by simp [results, Tryz.results12, go_sem, itV, r0, r1, r2]) rfl ⟨x, ok, rfl, by rw [← HQ.out.1, ← HQ.out.2]; exact hres.out, ?_⟩
      exact ((HBC.out.setCell (by simp; omega) _).setCell (by simp; omega) _).setCell (by simp; omega) _
end Go.Proofs.YtjogfagjcpcihaaGreatDoor
namespace Go.Proofs.YtjogfagjcpcihaaGreatDoor
open Go Go.RowKit
theorem TreeErrs.at {w w' : World} (h : TreeErrs w) (hb : Below w.heap.size w w') : TreeErrs w' := h.below hb h.size
theorem belowS {w w1 w2 : World} (h : Below w.heap.size w w1) (k : Below w1.heap.size w1 w2) : Below w.heap.size w w2 := h.trans (k.mono h.size)
end Go.Proofs.YtjogfagjcpcihaaGreatDoor
namespace Go.Proofs.YtjogfagjcpcihaaGreatDoor
open Go Go.RowKit
end Go.Proofs.YtjogfagjcpcihaaGreatDoor
namespace Go.Proofs.YtjogfagjcpcihaaGreatDoor
open Go Go.RowKit
end Go.Proofs.YtjogfagjcpcihaaGreatDoor
