/-
  An entry of a map that is there, read and stored anew by its stamp: the map's reading and storing by its key. Plain facts. Who uses a declaration, as plain data; a map of users in memory, told by what look-ups answer. Plain facts. The walks of the given l6Remove, l6RawRemoveItem and RemoveItem. Condition: the argument's memory holds the graph. The walks of the laws' markItemS, markScopeS, markGraph, heldItemS, heldScopeS and heldGraph over a graph that a call handed back: once marked, it is found marked. Condition: the graph's memory is the call's own. The walks of RemoveItem, given and impl. Conditions: the argument's memory holds the graph; the package-level errors hold errors. The walks of the given and of impl's SameShape, of impl's sameShape for items and scopes, and of slices.EqualFunc with them. Conditions: the arguments' memory holds the graphs; impl's: the package-level errors hold errors. The walks of impl's renamings: the closures of naming, replacing and then, and what a function value that renames does in every later world. No condition. The walks of impl's taking, putting, the closures that they hand back, and (Graph).with over whatever edits. Conditions: the argument's memory holds the graph; each edit does what is told of it. The walk of impl's (renaming).apply: all items of a graph in a box get their names. Conditions: the function value renames as told; the box holds a graph of the call's own. The walk of impl's SwapNames. Conditions: the argument's memory holds the graph; the package-level errors hold errors. The walks of the given l8RawSwapNames and SwapNames. Condition: the argument's memory holds the graph. The walks of the given l6Declared, l6Users (of those that mean a place alone) and UsersOf. Conditions: the argument's memory holds the graph. The walks of the given l7List and l7Changes. Conditions: both graphs are valid and lie in memory. The walk of the given l7Changes. Conditions: both graphs are valid and lie in memory; whatever stands in the first one stands in the second one at the same place. The walks of the given l8Named, l8RawRenameAt, RenameAt, RenameChanges and CanRename. Condition: the argument's memory holds the graph.
-/
import Derived.Test.YtjogfagjcpcihaaGreatDoorJDZ
import Derived.WideKeyEntry
import Derived.Test.YtjogfagjcpcihaaGreatDoorJEZ
import Derived.Test.YtjogfagjcpcihaaGreatDoorWSpecItemsZ
import Derived.RangeFuncWrites
import Derived.Test.YtjogfagjcpcihaaGreatDoorJCZ
import Derived.Test.YtjogfagjcpcihaaGreatDoorJBZ
import Derived.Test.YtjogfagjcpcihaaGreatDoorJAZ
import Derived.Lib.QuietBelow
import Derived.BigQuiet
import Derived.ChangeSame
import Derived.ProofKit
import Derived.OpenShut
import Derived.Test.YtjogfagjcpcihaaGreatDoorWImplValidZ
import Derived.Test.YtjogfagjcpcihaaGreatDoorWSpecValidZ
import Derived.Deep.QuietTactic
import Derived.Deep.RegionHeld3
namespace Go.Proofs.YtjogfagjcpcihaaGreatDoor
open Go Go.RowKit Go.Maps
open Go.WideElems Go.ChangeShapes Go.WideShapes Go.MapKept Go.ChangeMaps
end Go.Proofs.YtjogfagjcpcihaaGreatDoor
namespace Go.Proofs.YtjogfagjcpcihaaGreatDoor
open Go Go.RowKit Go.Maps
theorem plLit_is (a b : Int) : WideAt.IsKeyLit (plLit a b) := trivial
end Go.Proofs.YtjogfagjcpcihaaGreatDoor
namespace Go.Proofs.YtjogfagjcpcihaaGreatDoor
open Go Go.RowKit
end Go.Proofs.YtjogfagjcpcihaaGreatDoor
namespace Go.Proofs.YtjogfagjcpcihaaGreatDoor
open Go Go.RowKit
theorem below_of_grown {w w' : World} {B : Nat} {row : Option Nat} (hg : w.grownBy w' row) (hB : B ≤ w.heap.size) (hr : ∀ g, row = some g → B ≤ g) : Below B w w' :=
  ⟨hg.os, hg.tape, hg.output, hg.size, fun b hb => hg.block b (Nat.lt_of_lt_of_le hb hB) (fun e => by have := hr b e.symm; omega)⟩
end Go.Proofs.YtjogfagjcpcihaaGreatDoor
namespace Go.Proofs.YtjogfagjcpcihaaGreatDoor
open Go Go.RowKit
end Go.Proofs.YtjogfagjcpcihaaGreatDoor
namespace Go.Proofs.YtjogfagjcpcihaaGreatDoor
open Go Go.RowKit
end Go.Proofs.YtjogfagjcpcihaaGreatDoor
namespace Go.Proofs.YtjogfagjcpcihaaGreatDoor
open Go Go.RowKit
/-- A function value that renames the items of a graph, in every world behind w. -/
def RenOn (us : List Sc) (w : World) (u : Value) (f : NameF) : Prop := ∃ (fn : Nat) (lb : Array Value), u = .func (.func fn) #[] lb ∧ (∀ args W, (callFunc fn args).run Tryz.prog W = .ok (.enter fn args) W) ∧
  ∀ (i j : Nat) (s : Sc) (x : It) (W : World), us[i]? = some s → s.items[j]? = some x → Below w.heap.size w W → Calls Tryz.prog fn (#[.agg #[.int .i64 (i : Int), .int .i64 (j : Int)], .string x.name] ++ lb) W fun e W' => e = .returned (.string (f i j x.name)) ∧ Below W.heap.size W W'
end Go.Proofs.YtjogfagjcpcihaaGreatDoor
namespace Go.Proofs.YtjogfagjcpcihaaGreatDoor
open Go Go.RowKit
/-- What an edit does to a graph in a box, in every world behind w. -/
def EditOk (w : World) (u : Value) (us tt : List Sc) : Prop := ∃ (f : Nat) (pb lb : Array Value), u = .func (.func f) pb lb ∧ (pb = #[] ∨ ∃ r, pb = #[r]) ∧ (∀ args W, (callFunc f args).run Tryz.prog W = .ok (.enter f args) W) ∧
  ∀ (W : World) (B g gs cs : Nat) (hs : List Value), Below w.heap.size w W → w.heap.size ≤ B → B ≤ W.heap.size → GrIn W B g gs cs us hs →
    Calls Tryz.prog f (pb ++ #[.pointer (some ⟨g, 0, none⟩)] ++ lb) W fun e W' => (∃ v, e = .returned v) ∧ ∃ hs', GrIn W' B g gs cs tt hs' ∧ Below B W W'
inductive Edits (w : World) : List Value → List Sc → List Sc → Prop
  | nil (ss : List Sc) : Edits w [] ss ss
  | cons {u : Value} {es : List Value} {ss tt uu : List Sc} (h : EditOk w u ss tt) (k : Edits w es tt uu) : Edits w (u :: es) ss uu
/-- The cells of a slice of edits. -/
def HoldsFuncs (w : World) (oe : Option Addr) (es : List Value) : Prop := es = [] ∨ ∃ b off, oe = some ⟨b, off, none⟩ ∧ b < w.heap.size ∧ ∀ i u, es[i]? = some u → w.cell? ⟨b, off + i, none⟩ = some u
theorem HoldsFuncs.at {w : World} {oe : Option Addr} {es : List Value} (h : HoldsFuncs w oe es) {k : Nat} {u : Value} (hu : es[k]? = some u) : ∃ b off, oe = some ⟨b, off, none⟩ ∧ b < w.heap.size ∧ w.cell? ⟨b, off + k, none⟩ = some u := by
  rcases h with h | ⟨b, off, h1, h2, h3⟩
  · subst h; simp at hu
  · exact ⟨b, off, h1, h2, h3 k u hu⟩
set_option maxRecDepth 100000 in
set_option maxHeartbeats 4000000 in
theorem with_any (ss tt : List Sc) (hF : Fair ss) (h1 : 1 ≤ ss.length) (oa oe : Option Addr) (cap ce : Nat) (es : List Value) (hes : es.length ≤ 1000) (w : World) (hc : HoldsScopes w oa ss) (he : HoldsFuncs w oe es) (hE : Edits w es ss tt) :
    Calls Tryz.prog 142 #[.agg #[.slice oa ss.length cap], .slice oe es.length ce] w fun e w' => ∃ v hs, e = .returned (.agg #[v]) ∧ OwnGr w' w.heap.size v tt hs ∧ Below w.heap.size w w' := by
  have hb0 : Below w.heap.size w ((w.alloc (.cells #[.slice oa ss.length cap] 33)).alloc (.cells #[.slice none 0 0] 33)) := ((Below.refl _ _).alloc (Nat.le_refl _) _).alloc (by simp) _
  have R1 := (Row.new w [.slice oa ss.length cap] 33).alloc (.cells #[.slice none 0 0] 33)
  have R3 := Row.new (w.alloc (.cells #[.slice oa ss.length cap] 33)) [.slice none 0 0] 33
  rw [World.size_alloc] at R3
  have C := Lib.hid (implClone_any ss oa cap hF.count (fun t ht => by have := hF.items t ht; omega) _ (hc.below hb0 (Nat.le_refl _)))
  have HB := Lib.hid hb0
  have HR3 := Lib.hid R3
  have HE := Lib.hid (And.intro he hE)
  have g1 := R1.cell (i := 0) (by rfl)
  have hsz0 : Hid (((w.alloc (.cells #[.slice oa ss.length cap] 33)).alloc (.cells #[.slice none 0 0] 33)).heap.size = w.heap.size + 2) := Lib.hid (by simp)
  clear hF hc hb0 R1 R3 he hE
  go_enter Tryz.func142, Tryz.ntmps142
  go_wp2_with fail
  refine C.out.mono ?_
  rintro e w1 ⟨v, hs, rfl, hO, hb1⟩
  obtain ⟨gs, cs, rfl⟩ : ∃ gs cs, v = .slice (some ⟨gs, 0, none⟩) ss.length cs := by
    obtain ⟨hl, h2 | ⟨g, c, cur, hv, hB, hh, _⟩⟩ := hO.row
    · have := h2.2; omega
    · exact ⟨g, c, hv⟩
  have hbA := (Below.refl w1.heap.size w1).alloc (Nat.le_refl _) (.cells #[.slice (some ⟨gs, 0, none⟩) ss.length cs] 33)
  have HB1 := Lib.hid (HB.out.trans ((hb1.trans (hbA.mono hb1.size)).mono HB.out.size))
  have HO := Lib.hid (hO.below hbA)
  have HR3a := Lib.hid (HR3.out.below (hb1.trans (hbA.mono hb1.size)) HR3.out.lt)
  have RH := Lib.hid (Row.new w1 [.slice (some ⟨gs, 0, none⟩) ss.length cs] 33)
  have hsB : w.heap.size + 2 ≤ w1.heap.size := by have := hb1.size; rw [hsz0.out] at this; exact this
  have HGI : Hid (GrIn (w1.alloc (.cells #[.slice (some ⟨gs, 0, none⟩) ss.length cs] 33)) (w.heap.size + 2) w1.heap.size gs cs ss hs) := Lib.hid ⟨RH.out, by have h := HO.out; rw [hsz0.out] at h; exact h⟩
  have HSB := Lib.hid hsB
  clear hO hb1 hbA g1 hsB
  go_wp2
  go_loopw [12] (fun i wr => ∃ (k : Nat) (us : List Sc) (ks : List Value), i = .int .i64 k ∧ k ≤ es.length ∧ Hid (Edits w (es.drop k) us tt ∧ GrIn wr (w.heap.size + 2) w1.heap.size gs cs us ks ∧ Below w.heap.size w wr ∧ Row wr (w.heap.size + 1) 33 [.slice none 0 0] ∧ w.heap.size + 2 ≤ wr.heap.size)) (fun i _ => es.length - (intOf i).toNat)
  case atStart => exact ⟨0, ss, hs, rfl, Nat.zero_le _, Lib.hid ⟨by simpa using HE.out.2, HGI.out, HB1.out, HR3a.out, by have := HSB.out; simp; omega⟩⟩
  case round =>
    obtain ⟨k, us, ks, rfl, hk, hP⟩ := hrel
    by_cases hlt : k < es.length
    · obtain ⟨u, hu⟩ : ∃ u, es[k]? = some u := ⟨_, List.getElem?_eq_getElem hlt⟩
      have hdrop : es.drop k = u :: es.drop (k + 1) := by
        rw [List.drop_eq_getElem_cons hlt]
        rw [List.getElem?_eq_getElem hlt] at hu
        rw [Option.some.inj hu]
      obtain ⟨b, off, rfl, hbb, hcu⟩ := HE.out.1.at hu
      have hPE := hP.out.1
      rw [hdrop] at hPE
      obtain ⟨mm, hme, hmr⟩ : ∃ mm, EditOk w u us mm ∧ Edits w (es.drop (k + 1)) mm tt := by
        cases hPE with
        | cons h k => exact ⟨_, h, k⟩
      obtain ⟨f, pb, lb, rfl, hpb, hen, hcall⟩ := hme
      have hcw := hcall wr (w.heap.size + 2) w1.heap.size gs cs ks hP.out.2.2.1 (by omega) hP.out.2.2.2.2 hP.out.2.1
      have cu := (hP.out.2.2.1.cell (p := ⟨b, off + k, none⟩) hbb).trans hcu
      have HMR := Lib.hid hmr
      clear hcall hmr hPE hdrop hcu hu
      rcases hpb with rfl | ⟨rv, rfl⟩
      · have D := Lib.hid hcw
        go_wp2_with fail
        refine D.out.mono ?_
        rintro e w3 ⟨⟨v3, rfl⟩, ks3, hG3, hb3⟩
        have HP3 := Lib.hid (And.intro HMR.out (And.intro hG3 (And.intro (hP.out.2.2.1.trans (hb3.mono (by omega))) (And.intro (hP.out.2.2.2.1.below hb3 (by omega)) (Nat.le_trans hP.out.2.2.2.2 hb3.size)))))
        clear hG3 hb3 cu
        go_wp2
        go_roundw
        case rel => exact ⟨k + 1, _, ks3, by go_num, by omega, HP3⟩
        case measure => simp only [intOf]; omega
      · have D := Lib.hid hcw
        go_wp2_with fail
        refine D.out.mono ?_
        rintro e w3 ⟨⟨v3, rfl⟩, ks3, hG3, hb3⟩
        have HP3 := Lib.hid (And.intro HMR.out (And.intro hG3 (And.intro (hP.out.2.2.1.trans (hb3.mono (by omega))) (And.intro (hP.out.2.2.2.1.below hb3 (by omega)) (Nat.le_trans hP.out.2.2.2.2 hb3.size)))))
        clear hG3 hb3 cu
        go_wp2
        go_roundw
        case rel => exact ⟨k + 1, _, ks3, by go_num, by omega, HP3⟩
        case measure => simp only [intOf]; omega
    · obtain rfl : k = es.length := by omega
      have hend : us = tt := by
        have h := hP.out.1
        rw [List.drop_length] at h
        cases h
        rfl
      subst hend
      have r0 := hP.out.2.1.row.cell (i := 0) (by rfl)
      have n0 := hP.out.2.2.2.1.cell (i := 0) (v := .slice none 0 0) (by rfl)
      have f0 := hP.out.2.2.2.1.frozen 0
      go_wp2
      have RT := hP.out.2.2.2.1.set 0 (.slice (some ⟨gs, 0, none⟩) us.length cs)
      have d0 := RT.cell (i := 0) (v := .slice (some ⟨gs, 0, none⟩) us.length cs) (by rfl)
      refine bodyPost_ret (v := .agg #[.slice (some ⟨gs, 0, none⟩) us.length cs]) (by simp [results, Tryz.results142, go_sem, d0]) rfl ⟨_, ks, rfl, ?_, hP.out.2.2.1.setCell (by simp) _⟩
      refine OwnGr.lower (B := w.heap.size + 2) ?_ (by omega)
      exact ⟨hP.out.2.1.own.len, ownsRow_otherN hP.out.2.1.own.row hP.out.2.2.2.1 (by decide) 0 _, fun k t z h1 h2 => ownsRow_otherN (hP.out.2.1.own.items k t z h1 h2) hP.out.2.2.2.1 (by decide) 0 _, hP.out.2.1.own.apart⟩
end Go.Proofs.YtjogfagjcpcihaaGreatDoor
namespace Go.Proofs.YtjogfagjcpcihaaGreatDoor
open Go Go.RowKit
theorem GrIn.par {w : World} {B g gs cs : Nat} {us : List Sc} {hs : List Value} (h : GrIn w B g gs cs us hs) {i : Nat} {s : Sc} (hs' : us[i]? = some s) : w.cell? ⟨gs, i * 2, none⟩ = some (.int .i64 s.parent) := by
  obtain ⟨u, hu⟩ : ∃ u, hs[i]? = some u := ⟨_, List.getElem?_eq_getElem (by rw [h.own.len]; exact (List.getElem?_eq_some_iff.1 hs').1)⟩
  have h3 := h.own.row.cells (g := gs) rfl _ _ (scRow_at hs' hu).1
  rw [Addr.add_lit, Nat.zero_add] at h3
  exact h3
set_option maxRecDepth 100000 in
set_option maxHeartbeats 8000000 in
theorem apply_any {w0 : World} {u : Value} {f : NameF} (us : List Sc) (hs : List Value) (hn : us.length ≤ 900) (hn2 : ∀ s ∈ us, s.items.length ≤ 900) (B g gs cs : Nat) (w : World) (hR : RenOn us w0 u f) (hb0 : Below w0.heap.size w0 w) (hle : w0.heap.size ≤ B) (hB : B ≤ w.heap.size) (hG : GrIn w B g gs cs us hs) :
    Calls Tryz.prog 144 #[u, .pointer (some ⟨g, 0, none⟩)] w fun e w' => (∃ v, e = .returned v) ∧ ∃ hs', GrIn w' B g gs cs (renP us f) hs' ∧ Below B w w' := by
  obtain ⟨fn, lb, rfl, hen, hcall⟩ := hR
  have HCALL := Lib.hid hcall
  have HB0 := Lib.hid hb0
  have HLE := Lib.hid (And.intro hle hB)
  have HN2 := Lib.hid hn2
  have HG := Lib.hid hG
  have r0 := hG.row.cell (i := 0) (by rfl)
  clear hcall hb0 hle hB hn2 hG
  go_enter Tryz.func144, Tryz.ntmps144
  go_wp2
  go_loopw [13] (fun i wr => ∃ k : Nat, i = .int .i64 k ∧ k ≤ us.length ∧ Hid (GrIn wr B g gs cs (renP us (uptoF f k 0)) hs ∧ Below B w wr)) (fun i _ => us.length - (intOf i).toNat)
  case atStart => exact ⟨0, rfl, Nat.zero_le _, Lib.hid ⟨by rw [uptoF_start]; exact HG.out, Below.refl _ _⟩⟩
  case round =>
    obtain ⟨k, rfl, hk, hP⟩ := hrel
    by_cases hlt : k < us.length
    · obtain ⟨c, hc⟩ : ∃ c, us[k]? = some c := ⟨_, List.getElem?_eq_getElem hlt⟩
      have hd : (renP us (uptoF f k 0))[k]? = some (renSc (uptoF f k 0) k c) := by rw [renP_get, hc]; rfl
      obtain ⟨u0, hu, hgB, hgl, hcell, hown⟩ := hP.out.1.slot hd
      have hpar := hP.out.1.par hd
      rw [renSc_length] at hown
      have hol := hown.lt
      obtain ⟨L, hL⟩ : ∃ L, c.items.length = L := ⟨_, rfl⟩
      rw [hL] at hown
      obtain ⟨o', c', rfl⟩ := ownsRow_slice hown
      obtain ⟨pr, hpr⟩ : ∃ pr, (renSc (uptoF f k 0) k c).parent = pr := ⟨_, rfl⟩
      rw [hpr] at hpar
      have hL9 : L ≤ 900 := by rw [← hL]; exact HN2.out c (List.mem_of_getElem? hc)
      have hk0 : (0 : Int) ≤ (k : Int) := by omega
      have hk1 : (k : Int) < (us.length : Int) := by omega
      have HC := Lib.hid (And.intro hc (And.intro hu hL))
      have HOL : Hid (∀ b, o' = some b → b.block < wr.heap.size) := Lib.hid (fun b e => (hol b.block (by rw [e]; rfl)).2)
      have HSZ : Hid (B ≤ wr.heap.size) := Lib.hid (Nat.le_trans HLE.out.2 hP.out.2.size)
      have hbA := (Below.refl wr.heap.size wr).alloc (Nat.le_refl _) (.cells #[.int .i64 pr, .slice o' L c'] 156)
      have HA := Lib.hid (And.intro (hP.out.1.below hbA) (hP.out.2.trans (hbA.mono HSZ.out)))
      have RS := Lib.hid (Row.new wr [.int .i64 pr, .slice o' L c'] 156)
      have HLT : Hid (wr.heap.size < (wr.alloc (.cells #[.int .i64 pr, .slice o' L c'] 156)).heap.size) := Lib.hid (by simp)
      have s1 := RS.out.cell (i := 1) (v := .slice o' L c') (by rfl)
      clear hd hgB hgl hown hol hpr hbA hc hu hL
      go_wp2
      generalize wr.alloc (.cells #[.int .i64 pr, .slice o' L c'] 156) = wA at *
      generalize wr.heap.size = Z at *
      go_loopw [21] (fun i wi => ∃ m : Nat, i = .int .i64 m ∧ m ≤ L ∧ Hid (GrIn wi B g gs cs (renP us (uptoF f k m)) hs ∧ Below B w wi ∧ Row wi Z 156 [.int .i64 pr, .slice o' L c'])) (fun i _ => L - (intOf i).toNat)
      case atStart => exact ⟨0, rfl, Nat.zero_le _, Lib.hid ⟨HA.out.1, HA.out.2, RS.out⟩⟩
      case round =>
        obtain ⟨m, rfl, hm, hQ⟩ := hrel
        by_cases hlt2 : m < L
        · obtain ⟨x, hx⟩ : ∃ x, c.items[m]? = some x := ⟨_, List.getElem?_eq_getElem (by rw [HC.out.2.2]; exact hlt2)⟩
          obtain ⟨d, hd, hdl, hdx⟩ := uptoF_get f HC.out.1 hx
          obtain ⟨gi, ci, hu2, hgB, hgl, _, hname, hfro, -, -⟩ := hQ.out.1.nameAt hd hdx
          have he := HC.out.2.1.symm.trans hu2
          simp only [Option.some.injEq, Value.slice.injEq] at he
          obtain ⟨rfl, -, rfl⟩ := he
          have hgw : gi < Z := HOL.out _ rfl
          have s1 := hQ.out.2.2.cell (i := 1) (v := .slice (some ⟨gi, 0, none⟩) L c') (by rfl)
          have D := Lib.hid (HCALL.out k m c x wr HC.out.1 hx ((HB0.out.trans (hQ.out.2.1.mono HLE.out.1))))
          have HNX : Hid (∀ wz : World, Below wr.heap.size wr wz → GrIn (wz.setCell ⟨gi, m * 3 + 1, none⟩ (.string (f k m x.name))) B g gs cs (renP us (uptoF f k (m + 1))) hs ∧ Below B w (wz.setCell ⟨gi, m * 3 + 1, none⟩ (.string (f k m x.name))) ∧ Row (wz.setCell ⟨gi, m * 3 + 1, none⟩ (.string (f k m x.name))) Z 156 [.int .i64 pr, .slice (some ⟨gi, 0, none⟩) L c']) := Lib.hid (fun wz hz => by
            have h1 := (hQ.out.1.below hz).name hd hdx hu2 (f k m x.name)
            rw [uptoF_step f HC.out.1 hx] at h1
            exact ⟨h1, (hQ.out.2.1.trans (hz.mono (Nat.le_trans HLE.out.2 hQ.out.2.1.size))).setCell hgB _, (hQ.out.2.2.below hz hQ.out.2.2.lt).other (a := ⟨gi, m * 3 + 1, none⟩) (by show gi ≠ Z; omega) _⟩)
          have HFR : Hid (∀ wz : World, Below wr.heap.size wr wz → wz.cell? ⟨gi, m * 3 + 1, none⟩ = some (.string x.name) ∧ wz.frozen? ⟨gi, m * 3 + 1, none⟩ = false) := Lib.hid (fun wz hz => ⟨cell_grow hz hname, by
            obtain ⟨gi', ci', k1, -, -, -, -, k2, -, -⟩ := (hQ.out.1.below hz).nameAt hd hdx
            have he := hu2.symm.trans k1
            simp only [Option.some.injEq, Value.slice.injEq, Addr.mk.injEq] at he
            rw [he.1.1]
            exact k2⟩)
          have hm0 : (0 : Int) ≤ (m : Int) := by omega
          have hm1 : (m : Int) < (L : Int) := by omega
          clear hx hd hdl hdx hu2 hgB hgl hfro hgw
          go_wp2_with fail
          refine D.out.mono ?_
          rintro e wz ⟨rfl, hbz⟩
          obtain ⟨n1, n2⟩ := HFR.out wz hbz
          have HN := Lib.hid (HNX.out wz hbz)
          clear hname s1 hbz
          go_wp2
          go_roundw
          case rel => exact ⟨m + 1, by go_num, by omega, HN⟩
          case measure => simp only [intOf]; omega
        · obtain rfl : m = L := by omega
          have HE : Hid (renP us (uptoF f k m) = renP us (uptoF f (k + 1) 0)) := Lib.hid (by have h := uptoF_scope f HC.out.1; rw [HC.out.2.2] at h; exact h)
          have HZ := Lib.hid (And.intro hQ.out.1 hQ.out.2.1)
          go_wp2
          go_roundw
          case rel => exact ⟨k + 1, by go_num, by omega, by rw [← HE.out]; exact HZ⟩
          case measure => simp only [intOf]; omega
    · obtain rfl : k = us.length := by omega
      have HE : Hid (GrIn wr B g gs cs (renP us f) hs ∧ Below B w wr) := Lib.hid (by have h := hP.out; rw [uptoF_all] at h; exact h)
      go_wp2
      go_end0
      exact ⟨⟨_, rfl⟩, hs, HE.out.1, HE.out.2⟩
end Go.Proofs.YtjogfagjcpcihaaGreatDoor
namespace Go.Proofs.YtjogfagjcpcihaaGreatDoor
open Go Go.RowKit
/-- The edit that a renaming is. -/
theorem edit_on {w : World} {u : Value} {f : NameF} {us : List Sc} (h : RenOn us w u f) (hn : us.length ≤ 900) (hn2 : ∀ s ∈ us, s.items.length ≤ 900) : EditOk w (.func (.func 144) #[u] #[]) us (renP us f) :=
  ⟨_, #[u], #[], rfl, .inr ⟨u, rfl⟩, enters_of Tryz.func144 (by kernel_rfl) rfl, fun W B g gs cs hs hb hB hB2 hG => apply_any us hs hn hn2 B g gs cs W h hb hB hB2 hG⟩
/-- A copy of a graph to which one edit has been made. -/
theorem with_one (ss tt : List Sc) (hF : Fair ss) (h1 : 1 ≤ ss.length) (oa : Option Addr) (cap : Nat) (u : Value) (w : World) (hc : HoldsScopes w oa ss) (hE : EditOk w u ss tt) :
    Calls Tryz.prog 142 #[.agg #[.slice oa ss.length cap], .slice (some ⟨w.heap.size, 0, none⟩) 1 1] (w.alloc (.cells #[u] 235)) fun e w' => ∃ v hs, e = .returned (.agg #[v]) ∧ OwnGr w' w.heap.size v tt hs ∧ Below w.heap.size w w' := by
  have hb := (Below.refl w.heap.size w).alloc (Nat.le_refl _) (.cells #[u] 235)
  have RF := Row.new w [u] 235
  refine (with_any ss tt hF h1 oa (some ⟨w.heap.size, 0, none⟩) cap 1 [u] (by simp) _ (hc.below hb (Nat.le_refl _)) (.inr ⟨_, 0, rfl, RF.lt, fun k z hz => by rw [Nat.zero_add]; exact RF.cell hz⟩) (.cons ?_ (.nil _))).mono ?_
  · obtain ⟨f, pb, lb, h1, h2, h3, h4⟩ := hE
    exact ⟨f, pb, lb, h1, h2, h3, fun W B g gs cs hs hW hB hB2 hG => h4 W B g gs cs hs (hb.trans (hW.mono hb.size)) (Nat.le_trans hb.size hB) hB2 hG⟩
  · rintro e w' ⟨v, hs, rfl, hO, hb'⟩
    exact ⟨v, hs, rfl, hO.lower hb.size, hb.trans (hb'.mono hb.size)⟩
end Go.Proofs.YtjogfagjcpcihaaGreatDoor
namespace Go.Proofs.YtjogfagjcpcihaaGreatDoor
open Go Go.RowKit
end Go.Proofs.YtjogfagjcpcihaaGreatDoor
namespace Go.Proofs.YtjogfagjcpcihaaGreatDoor
open Go Go.RowKit
attribute [local go_sem ↓] field_kind
end Go.Proofs.YtjogfagjcpcihaaGreatDoor
namespace Go.Proofs.YtjogfagjcpcihaaGreatDoor
open Go Go.RowKit
end Go.Proofs.YtjogfagjcpcihaaGreatDoor
namespace Go.Proofs.YtjogfagjcpcihaaGreatDoor
open Go Go.RowKit
end Go.Proofs.YtjogfagjcpcihaaGreatDoor
namespace Go.Proofs.YtjogfagjcpcihaaGreatDoor
open Go Go.RowKit
theorem Fair.ren {ss : List Sc} (hF : Fair ss) {f : NameF} (hf : ∀ i j s x, ss[i]? = some s → s.items[j]? = some x → (f i j x.name).size ≤ 2 ^ 63 - 1) : Fair (renP ss f) where
  count := by rw [renP_length]; exact hF.count
  items := items_ren hF.items f
  fits := hF.fits.ren hf
  nums := hF.nums.ren f
end Go.Proofs.YtjogfagjcpcihaaGreatDoor
