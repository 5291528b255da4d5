/-
  The walks of impl's renamings: the closures of naming, replacing and then, and what a function value that renames does in every later world. No condition. The walks of impl's taking, putting, the closures that they hand back, and (Graph).with over whatever edits. Conditions: the argument's memory holds the graph; each edit does what is told of it. The walk of impl's (renaming).apply: all items of a graph in a box get their names. Conditions: the function value renames as told; the box holds a graph of the call's own. The walks of the given l6Remove, l6RawRemoveItem and RemoveItem. Condition: the argument's memory holds the graph. The walks of the laws' markItemS, markScopeS, markGraph, heldItemS, heldScopeS and heldGraph over a graph that a call handed back: once marked, it is found marked. Condition: the graph's memory is the call's own. The walks of RemoveItem, given and impl. Conditions: the argument's memory holds the graph; the package-level errors hold errors. The walk of impl's SwapNames. Conditions: the argument's memory holds the graph; the package-level errors hold errors. The walks of the given l8RawSwapNames and SwapNames. Condition: the argument's memory holds the graph. An entry of a map that is there, read and stored anew by its stamp: the map's reading and storing by its key. Plain facts. Who uses a declaration, as plain data; a map of users in memory, told by what look-ups answer. Plain facts. The walks of the given l6Declared, l6Users (of those that mean a place alone) and UsersOf. Conditions: the argument's memory holds the graph. The walks of the given l7List and l7Changes. Conditions: both graphs are valid and lie in memory. The walk of the given l7Changes. Conditions: both graphs are valid and lie in memory; whatever stands in the first one stands in the second one at the same place. The walks of the given l8Named, l8RawRenameAt, RenameAt, RenameChanges and CanRename. Condition: the argument's memory holds the graph. The walks of the given and of impl's SameShape, of impl's sameShape for items and scopes, and of slices.EqualFunc with them. Conditions: the arguments' memory holds the graphs; impl's: the package-level errors hold errors.
-/
import Derived.Test.YtgehpaojbnpbcaaGreatDoorJDZ
import Derived.Test.YtgehpaojbnpbcaaGreatDoorJEZ
import Derived.Test.YtgehpaojbnpbcaaGreatDoorJCZ
import Derived.Test.YtgehpaojbnpbcaaGreatDoorJBZ
import Derived.Test.YtgehpaojbnpbcaaGreatDoorJAZ
import Derived.Lib.QuietBelow
import Derived.BigQuiet
import Derived.ChangeSame
import Derived.ProofKit
import Derived.OpenShut
import Derived.WideKeyEntry
import Derived.Test.YtgehpaojbnpbcaaGreatDoorWSpecItemsZ
import Derived.RangeFuncWrites
import Derived.Deep.RegionHeld3
import Derived.Test.YtgehpaojbnpbcaaGreatDoorWImplValidZ
import Derived.Test.YtgehpaojbnpbcaaGreatDoorWSpecValidZ
import Derived.Deep.QuietTactic
namespace Go.Proofs.YtgehpaojbnpbcaaGreatDoor
open Go Go.RowKit
/-- A function value that renames the items of a graph, in every world behind w. -/
def RenOn (us : List Sc) (w : World) (u : Value) (f : NameF) : Prop := ∃ (fn : Nat) (lb : Array Value), u = .func (.func fn) #[] lb ∧ (∀ args W, (callFunc fn args).run Tryz.prog W = .ok (.enter fn args) W) ∧
  ∀ (i j : Nat) (s : Sc) (x : It) (W : World), us[i]? = some s → s.items[j]? = some x → Below w.heap.size w W → Calls Tryz.prog fn (#[.agg #[.int .i64 (i : Int), .int .i64 (j : Int)], .string x.name] ++ lb) W fun e W' => e = .returned (.string (f i j x.name)) ∧ Below W.heap.size W W'
end Go.Proofs.YtgehpaojbnpbcaaGreatDoor
namespace Go.Proofs.YtgehpaojbnpbcaaGreatDoor
open Go Go.RowKit
/-- What an edit does to a graph in a box, in every world behind w. -/
def EditOk (w : World) (u : Value) (us tt : List Sc) : Prop := ∃ (f : Nat) (pb lb : Array Value), u = .func (.func f) pb lb ∧ (pb = #[] ∨ ∃ r, pb = #[r]) ∧ (∀ args W, (callFunc f args).run Tryz.prog W = .ok (.enter f args) W) ∧
  ∀ (W : World) (B g gs cs : Nat) (hs : List Value), Below w.heap.size w W → w.heap.size ≤ B → B ≤ W.heap.size → GrIn W B g gs cs us hs →
    Calls Tryz.prog f (pb ++ #[.pointer (some ⟨g, 0, none⟩)] ++ lb) W fun e W' => (∃ v, e = .returned v) ∧ ∃ hs', GrIn W' B g gs cs tt hs' ∧ Below B W W'
inductive Edits (w : World) : List Value → List Sc → List Sc → Prop
  | nil (ss : List Sc) : Edits w [] ss ss
  | cons {u : Value} {es : List Value} {ss tt uu : List Sc} (h : EditOk w u ss tt) (k : Edits w es tt uu) : Edits w (u :: es) ss uu
/-- The cells of a slice of edits. -/
def HoldsFuncs (w : World) (oe : Option Addr) (es : List Value) : Prop := es = [] ∨ ∃ b off, oe = some ⟨b, off, none⟩ ∧ b < w.heap.size ∧ ∀ i u, es[i]? = some u → w.cell? ⟨b, off + i, none⟩ = some u
theorem HoldsFuncs.at {w : World} {oe : Option Addr} {es : List Value} (h : HoldsFuncs w oe es) {k : Nat} {u : Value} (hu : es[k]? = some u) : ∃ b off, oe = some ⟨b, off, none⟩ ∧ b < w.heap.size ∧ w.cell? ⟨b, off + k, none⟩ = some u := by
  rcases h with h | ⟨b, off, h1, h2, h3⟩
  · subst h; simp at hu
  · exact ⟨b, off, h1, h2, h3 k u hu⟩
set_option maxRecDepth 100000 in
set_option maxHeartbeats 4000000 in
theorem with_any (ss tt : List Sc) (hF : Fair ss) (h1 : 1 ≤ ss.length) (oa oe : Option Addr) (cap ce : Nat) (es : List Value) (hes : es.length ≤ 1000) (w : World) (hc : HoldsScopes w oa ss) (he : HoldsFuncs w oe es) (hE : Edits w es ss tt) :
    Calls Tryz.prog 77 #[.agg #[.slice oa ss.length cap], .slice oe es.length ce] w fun e w' => ∃ v hs, e = .returned (.agg #[v]) ∧ OwnGr w' w.heap.size v tt hs ∧ Below w.heap.size w w' := by
  have hb0 : Below w.heap.size w ((w.alloc (.cells #[.slice oa ss.length cap] 28)).alloc (.cells #[.slice none 0 0] 28)) := ((Below.refl _ _).alloc (Nat.le_refl _) _).alloc (by simp) _
  have R1 := (Row.new w [.slice oa ss.length cap] 28).alloc (.cells #[.slice none 0 0] 28)
  have R3 := Row.new (w.alloc (.cells #[.slice oa ss.length cap] 28)) [.slice none 0 0] 28
  rw [World.size_alloc] at R3
  have C := Lib.hid (implClone_any ss oa cap hF.count (fun t ht => by have := hF.items t ht; omega) _ (hc.below hb0 (Nat.le_refl _)))
  have HB := Lib.hid hb0
  have HR3 := Lib.hid R3
  have HE := Lib.hid (And.intro he hE)
  have g1 := R1.cell (i := 0) (by rfl)
  have hsz0 : Hid (((w.alloc (.cells #[.slice oa ss.length cap] 28)).alloc (.cells #[.slice none 0 0] 28)).heap.size = w.heap.size + 2) := Lib.hid (by simp)
  clear hF hc hb0 R1 R3 he hE
  go_enter Tryz.func77, Tryz.ntmps77
  go_wp2_with fail
  refine C.out.mono ?_
  rintro e w1 ⟨v, hs, rfl, hO, hb1⟩
  obtain ⟨gs, cs, rfl⟩ : ∃ gs cs, v = .slice (some ⟨gs, 0, none⟩) ss.length cs := by
    obtain ⟨hl, h2 | ⟨g, c, cur, hv, hB, hh, _⟩⟩ := hO.row
    · have := h2.2; omega
    · exact ⟨g, c, hv⟩
  have hbA := (Below.refl w1.heap.size w1).alloc (Nat.le_refl _) (.cells #[.slice (some ⟨gs, 0, none⟩) ss.length cs] 28)
  have HB1 := Lib.hid (HB.out.trans ((hb1.trans (hbA.mono hb1.size)).mono HB.out.size))
  have HO := Lib.hid (hO.below hbA)
  have HR3a := Lib.hid (HR3.out.below (hb1.trans (hbA.mono hb1.size)) HR3.out.lt)
  have RH := Lib.hid (Row.new w1 [.slice (some ⟨gs, 0, none⟩) ss.length cs] 28)
  have hsB : w.heap.size + 2 ≤ w1.heap.size := by have := hb1.size; rw [hsz0.out] at this; exact this
  have HGI : Hid (GrIn (w1.alloc (.cells #[.slice (some ⟨gs, 0, none⟩) ss.length cs] 28)) (w.heap.size + 2) w1.heap.size gs cs ss hs) := Lib.hid ⟨RH.out, by have h := HO.out; rw [hsz0.out] at h; exact h⟩
  have HSB := Lib.hid hsB
  clear hO hb1 hbA g1 hsB
  go_wp2
  go_loopw [12] (fun i wr => ∃ (k : Nat) (us : List Sc) (ks : List Value), i = .int .i64 k ∧ k ≤ es.length ∧ Hid (Edits w (es.drop k) us tt ∧ GrIn wr (w.heap.size + 2) w1.heap.size gs cs us ks ∧ Below w.heap.size w wr ∧ Row wr (w.heap.size + 1) 28 [.slice none 0 0] ∧ w.heap.size + 2 ≤ wr.heap.size)) (fun i _ => es.length - (intOf i).toNat)
  case atStart => exact ⟨0, ss, hs, rfl, Nat.zero_le _, Lib.hid ⟨by simpa using HE.out.2, HGI.out, HB1.out, HR3a.out, by have := HSB.out; simp; omega⟩⟩
  case round =>
    obtain ⟨k, us, ks, rfl, hk, hP⟩ := hrel
    by_cases hlt : k < es.length
    · obtain ⟨u, hu⟩ : ∃ u, es[k]? = some u := ⟨_, List.getElem?_eq_getElem hlt⟩
      have hdrop : es.drop k = u :: es.drop (k + 1) := by
        rw [List.drop_eq_getElem_cons hlt]
        rw [List.getElem?_eq_getElem hlt] at hu
        rw [Option.some.inj hu]
      obtain ⟨b, off, rfl, hbb, hcu⟩ := HE.out.1.at hu
      have hPE := hP.out.1
      rw [hdrop] at hPE
      obtain ⟨mm, hme, hmr⟩ : ∃ mm, EditOk w u us mm ∧ Edits w (es.drop (k + 1)) mm tt := by
        cases hPE with
        | cons h k => exact ⟨_, h, k⟩
      obtain ⟨f, pb, lb, rfl, hpb, hen, hcall⟩ := hme
      have hcw := hcall wr (w.heap.size + 2) w1.heap.size gs cs ks hP.out.2.2.1 (by omega) hP.out.2.2.2.2 hP.out.2.1
      have cu := (hP.out.2.2.1.cell (p := ⟨b, off + k, none⟩) hbb).trans hcu
      have HMR := Lib.hid hmr
      clear hcall hmr hPE hdrop hcu hu
      rcases hpb with rfl | ⟨rv, rfl⟩
      · have D := Lib.hid hcw
        go_wp2_with fail
        refine D.out.mono ?_
        rintro e w3 ⟨⟨v3, rfl⟩, ks3, hG3, hb3⟩
        have HP3 := Lib.hid (And.intro HMR.out (And.intro hG3 (And.intro (hP.out.2.2.1.trans (hb3.mono (by omega))) (And.intro (hP.out.2.2.2.1.below hb3 (by omega)) (Nat.le_trans hP.out.2.2.2.2 hb3.size)))))
        clear hG3 hb3 cu
        go_wp2
        go_roundw
        case rel => exact ⟨k + 1, _, ks3, by go_num, by omega, HP3⟩
        case measure => simp only [intOf]; omega
      · have D := Lib.hid hcw
        go_wp2_with fail
        refine D.out.mono ?_
        rintro e w3 ⟨⟨v3, rfl⟩, ks3, hG3, hb3⟩
        have HP3 := Lib.hid (And.intro HMR.out (And.intro hG3 (And.intro (hP.out.2.2.1.trans (hb3.mono (by omega))) (And.intro (hP.out.2.2.2.1.below hb3 (by omega)) (Nat.le_trans hP.out.2.2.2.2 hb3.size)))))
        clear hG3 hb3 cu
        go_wp2
        go_roundw
        case rel => exact ⟨k + 1, _, ks3, by go_num, by omega, HP3⟩
        case measure => simp only [intOf]; omega
    · obtain rfl : k = es.length := by omega
      have hend : us = tt := by
        have h := hP.out.1
        rw [List.drop_length] at h
        cases h
        rfl
      subst hend
      have r0 := hP.out.2.1.row.cell (i := 0) (by rfl)
      have n0 := hP.out.2.2.2.1.cell (i := 0) (v := .slice none 0 0) (by rfl)
      have f0 := hP.out.2.2.2.1.frozen 0
      go_wp2
      have RT := hP.out.2.2.2.1.set 0 (.slice (some ⟨gs, 0, none⟩) us.length cs)
      have d0 := RT.cell (i := 0) (v := .slice (some ⟨gs, 0, none⟩) us.length cs) (by rfl)
      refine bodyPost_ret (v := .agg #[.slice (some ⟨gs, 0, none⟩) us.length cs]) (by simp [results, Tryz.results77, go_sem, d0]) rfl ⟨_, ks, rfl, ?_, hP.out.2.2.1.setCell (by simp) _⟩
      refine OwnGr.lower (B := w.heap.size + 2) ?_ (by omega)
      exact ⟨hP.out.2.1.own.len, ownsRow_otherN hP.out.2.1.own.row hP.out.2.2.2.1 (by decide) 0 _, fun k t z h1 h2 => ownsRow_otherN (hP.out.2.1.own.items k t z h1 h2) hP.out.2.2.2.1 (by decide) 0 _, hP.out.2.1.own.apart⟩
end Go.Proofs.YtgehpaojbnpbcaaGreatDoor
namespace Go.Proofs.YtgehpaojbnpbcaaGreatDoor
open Go Go.RowKit
theorem GrIn.par {w : World} {B g gs cs : Nat} {us : List Sc} {hs : List Value} (h : GrIn w B g gs cs us hs) {i : Nat} {s : Sc} (hs' : us[i]? = some s) : w.cell? ⟨gs, i * 2, none⟩ = some (.int .i64 s.parent) := by
  obtain ⟨u, hu⟩ : ∃ u, hs[i]? = some u := ⟨_, List.getElem?_eq_getElem (by rw [h.own.len]; exact (List.getElem?_eq_some_iff.1 hs').1)⟩
  have h3 := h.own.row.cells (g := gs) rfl _ _ (scRow_at hs' hu).1
  rw [Addr.add_lit, Nat.zero_add] at h3
  exact h3
set_option maxRecDepth 100000 in
set_option maxHeartbeats 8000000 in
theorem apply_any {w0 : World} {u : Value} {f : NameF} (us : List Sc) (hs : List Value) (hn : us.length ≤ 900) (hn2 : ∀ s ∈ us, s.items.length ≤ 900) (B g gs cs : Nat) (w : World) (hR : RenOn us w0 u f) (hb0 : Below w0.heap.size w0 w) (hle : w0.heap.size ≤ B) (hB : B ≤ w.heap.size) (hG : GrIn w B g gs cs us hs) :
    Calls Tryz.prog 79 #[u, .pointer (some ⟨g, 0, none⟩)] w fun e w' => (∃ v, e = .returned v) ∧ ∃ hs', GrIn w' B g gs cs (renP us f) hs' ∧ Below B w w' := by
  obtain ⟨fn, lb, rfl, hen, hcall⟩ := hR
  have HCALL := Lib.hid hcall
  have HB0 := Lib.hid hb0
  have HLE := Lib.hid (And.intro hle hB)
  have HN2 := Lib.hid hn2
  have HG := Lib.hid hG
  have r0 := hG.row.cell (i := 0) (by rfl)
  clear hcall hb0 hle hB hn2 hG
  go_enter Tryz.func79, Tryz.ntmps79
  go_wp2
  go_loopw [13] (fun i wr => ∃ k : Nat, i = .int .i64 k ∧ k ≤ us.length ∧ Hid (GrIn wr B g gs cs (renP us (uptoF f k 0)) hs ∧ Below B w wr)) (fun i _ => us.length - (intOf i).toNat)
  case atStart => exact ⟨0, rfl, Nat.zero_le _, Lib.hid ⟨by rw [uptoF_start]; exact HG.out, Below.refl _ _⟩⟩
  case round =>
    obtain ⟨k, rfl, hk, hP⟩ := hrel
    by_cases hlt : k < us.length
    · obtain ⟨c, hc⟩ : ∃ c, us[k]? = some c := ⟨_, List.getElem?_eq_getElem hlt⟩
      have hd : (renP us (uptoF f k 0))[k]? = some (renSc (uptoF f k 0) k c) := by rw [renP_get, hc]; rfl
      obtain ⟨u0, hu, hgB, hgl, hcell, hown⟩ := hP.out.1.slot hd
      have hpar := hP.out.1.par hd
      rw [renSc_length] at hown
      have hol := hown.lt
      obtain ⟨L, hL⟩ : ∃ L, c.items.length = L := ⟨_, rfl⟩
      rw [hL] at hown
      obtain ⟨o', c', rfl⟩ := ownsRow_slice hown
      obtain ⟨pr, hpr⟩ : ∃ pr, (renSc (uptoF f k 0) k c).parent = pr := ⟨_, rfl⟩
      rw [hpr] at hpar
      have hL9 : L ≤ 900 := by rw [← hL]; exact HN2.out c (List.mem_of_getElem? hc)
      have hk0 : (0 : Int) ≤ (k : Int) := by omega
      have hk1 : (k : Int) < (us.length : Int) := by omega
      have HC := Lib.hid (And.intro hc (And.intro hu hL))
      have HOL : Hid (∀ b, o' = some b → b.block < wr.heap.size) := Lib.hid (fun b e => (hol b.block (by rw [e]; rfl)).2)
      have HSZ : Hid (B ≤ wr.heap.size) := Lib.hid (Nat.le_trans HLE.out.2 hP.out.2.size)
      have hbA := (Below.refl wr.heap.size wr).alloc (Nat.le_refl _) (.cells #[.int .i64 pr, .slice o' L c'] 67)
      have HA := Lib.hid (And.intro (hP.out.1.below hbA) (hP.out.2.trans (hbA.mono HSZ.out)))
      have RS := Lib.hid (Row.new wr [.int .i64 pr, .slice o' L c'] 67)
      have HLT : Hid (wr.heap.size < (wr.alloc (.cells #[.int .i64 pr, .slice o' L c'] 67)).heap.size) := Lib.hid (by simp)
      have s1 := RS.out.cell (i := 1) (v := .slice o' L c') (by rfl)
      clear hd hgB hgl hown hol hpr hbA hc hu hL
      go_wp2
      generalize wr.alloc (.cells #[.int .i64 pr, .slice o' L c'] 67) = wA at *
      generalize wr.heap.size = Z at *
      go_loopw [21] (fun i wi => ∃ m : Nat, i = .int .i64 m ∧ m ≤ L ∧ Hid (GrIn wi B g gs cs (renP us (uptoF f k m)) hs ∧ Below B w wi ∧ Row wi Z 67 [.int .i64 pr, .slice o' L c'])) (fun i _ => L - (intOf i).toNat)
      case atStart => exact ⟨0, rfl, Nat.zero_le _, Lib.hid ⟨HA.out.1, HA.out.2, RS.out⟩⟩
      case round =>
        obtain ⟨m, rfl, hm, hQ⟩ := hrel
        by_cases hlt2 : m < L
        · obtain ⟨x, hx⟩ : ∃ x, c.items[m]? = some x := ⟨_, List.getElem?_eq_getElem (by rw [HC.out.2.2]; exact hlt2)⟩
          obtain ⟨d, hd, hdl, hdx⟩ := uptoF_get f HC.out.1 hx
          obtain ⟨gi, ci, hu2, hgB, hgl, _, hname, hfro, -, -⟩ := hQ.out.1.nameAt hd hdx
          have he := HC.out.2.1.symm.trans hu2
          simp only [Option.some.injEq, Value.slice.injEq] at he
          obtain ⟨rfl, -, rfl⟩ := he
          have hgw : gi < Z := HOL.out _ rfl
          have s1 := hQ.out.2.2.cell (i := 1) (v := .slice (some ⟨gi, 0, none⟩) L c') (by rfl)
          have D := Lib.hid (HCALL.out k m c x wr HC.out.1 hx ((HB0.out.trans (hQ.out.2.1.mono HLE.out.1))))
          have HNX : Hid (∀ wz : World, Below wr.heap.size wr wz → GrIn (wz.setCell ⟨gi, m * 3 + 1, none⟩ (.string (f k m x.name))) B g gs cs (renP us (uptoF f k (m + 1))) hs ∧ Below B w (wz.setCell ⟨gi, m * 3 + 1, none⟩ (.string (f k m x.name))) ∧ Row (wz.setCell ⟨gi, m * 3 + 1, none⟩ (.string (f k m x.name))) Z 67 [.int .i64 pr, .slice (some ⟨gi, 0, none⟩) L c']) := Lib.hid (fun wz hz => by
            have h1 := (hQ.out.1.below hz).name hd hdx hu2 (f k m x.name)
            rw [uptoF_step f HC.out.1 hx] at h1
            exact ⟨h1, (hQ.out.2.1.trans (hz.mono (Nat.le_trans HLE.out.2 hQ.out.2.1.size))).setCell hgB _, (hQ.out.2.2.below hz hQ.out.2.2.lt).other (a := ⟨gi, m * 3 + 1, none⟩) (by show gi ≠ Z; omega) _⟩)
          have HFR : Hid (∀ wz : World, Below wr.heap.size wr wz → wz.cell? ⟨gi, m * 3 + 1, none⟩ = some (.string x.name) ∧ wz.frozen? ⟨gi, m * 3 + 1, none⟩ = false) := Lib.hid (fun wz hz => ⟨cell_grow hz hname, by
            obtain ⟨gi', ci', k1, -, -, -, -, k2, -, -⟩ := (hQ.out.1.below hz).nameAt hd hdx
            have he := hu2.symm.trans k1
            simp only [Option.some.injEq, Value.slice.injEq, Addr.mk.injEq] at he
            rw [he.1.1]
            exact k2⟩)
          have hm0 : (0 : Int) ≤ (m : Int) := by omega
          have hm1 : (m : Int) < (L : Int) := by omega
          clear hx hd hdl hdx hu2 hgB hgl hfro hgw
          go_wp2_with fail
          refine D.out.mono ?_
          rintro e wz ⟨rfl, hbz⟩
          obtain ⟨n1, n2⟩ := HFR.out wz hbz
          have HN := Lib.hid (HNX.out wz hbz)
          clear hname s1 hbz
          go_wp2
          go_roundw
          case rel => exact ⟨m + 1, by go_num, by omega, HN⟩
          case measure => simp only [intOf]; omega
        · obtain rfl : m = L := by omega
          have HE : Hid (renP us (uptoF f k m) = renP us (uptoF f (k + 1) 0)) := Lib.hid (by have h := uptoF_scope f HC.out.1; rw [HC.out.2.2] at h; exact h)
          have HZ := Lib.hid (And.intro hQ.out.1 hQ.out.2.1)
          go_wp2
          go_roundw
          case rel => exact ⟨k + 1, by go_num, by omega, by rw [← HE.out]; exact HZ⟩
          case measure => simp only [intOf]; omega
    · obtain rfl : k = us.length := by omega
      have HE : Hid (GrIn wr B g gs cs (renP us f) hs ∧ Below B w wr) := Lib.hid (by have h := hP.out; rw [uptoF_all] at h; exact h)
      go_wp2
      go_end0
      exact ⟨⟨_, rfl⟩, hs, HE.out.1, HE.out.2⟩
end Go.Proofs.YtgehpaojbnpbcaaGreatDoor
namespace Go.Proofs.YtgehpaojbnpbcaaGreatDoor
open Go Go.RowKit
end Go.Proofs.YtgehpaojbnpbcaaGreatDoor
namespace Go.Proofs.YtgehpaojbnpbcaaGreatDoor
open Go Go.RowKit
/-- What markText answers. -/
def markD : Nat → Nat → ByteArray → ByteArray
  | 0, _, out => out
  | f + 1, k, out => if k = 0 then out else markD f (k / 10) (strOfNums [48 + (k : Int) % 10] ++ out)
def markStr (n : Nat) : ByteArray := ByteArray.mk #[109] ++ markD n n ByteArray.empty
theorem markD_zero (f : Nat) (out : ByteArray) : markD f 0 out = out := by cases f <;> simp [markD]
set_option maxRecDepth 100000 in
set_option maxHeartbeats 1600000 in
theorem markText_is (n : Nat) (w : World) (h1 : 1 ≤ n) (hn : n ≤ 1099511627776) :
    Calls Tryz.prog 81 #[.int .i64 (n : Int)] w fun e w' => e = .returned (.string (markStr n)) ∧ Below w.heap.size w w' := by
  have k0 : decide (((n : Nat) : Int) ≤ 0) = false := by simp; omega
  go_enter Tryz.func81, Tryz.ntmps81
  go_wp2
  go_loopw [0, 3] (fun v s wr => ∃ (k f : Nat) (out : ByteArray), v = .int .i64 k ∧ s = .string out ∧ k ≤ n ∧ k ≤ f ∧ out.size ≤ 13 ∧ Hid (k * 10 ^ out.size ≤ n) ∧ Hid (markD f k out = markD n n ByteArray.empty) ∧ Below w.heap.size w wr) (fun v _ _ => (intOf v).toNat)
  case atStart => exact ⟨n, n, ByteArray.empty, rfl, rfl, Nat.le_refl _, Nat.le_refl _, by simp, Lib.hid (by simp), Lib.hid rfl, Below.refl _ _⟩
  case round =>
    obtain ⟨k, f, out, rfl, rfl, hk, hf, hsz, hd, hm, hb⟩ := hrel
    by_cases hlt : (0 : Int) < (k : Int)
    · have hconv := fun x => conv_byte wr x
      have h12 : out.size ≤ 12 := pow_small (by omega) hd.out hn
      have hs1 : (strOfNums [48 + (k : Int) % 10]).size = 1 := by rw [strOfNums_size]; rfl
      have hsum : (strOfNums [48 + (k : Int) % 10]).size + out.size ≤ 21 := by omega
      have HS : Hid ((strOfNums [48 + (k : Int) % 10] ++ out).size = out.size + 1) := Lib.hid (by rw [ByteArray.size_append, hs1]; omega)
      obtain ⟨f', rfl⟩ : ∃ f', f = f' + 1 := ⟨f - 1, by omega⟩
      have HM : Hid (markD f' (k / 10) (strOfNums [48 + (k : Int) % 10] ++ out) = markD n n ByteArray.empty) := Lib.hid (by
        have h := hm.out
        rw [show markD (f' + 1) k out = if k = 0 then out else markD f' (k / 10) (strOfNums [48 + (k : Int) % 10] ++ out) from rfl, if_neg (by omega)] at h
        exact h)
      clear hs1 hm
      go_wp2
      go_roundw
      case rel => exact ⟨k / 10, f', _, by go_num, rfl, by omega, by omega, by rw [HS.out]; omega, Lib.hid (by rw [HS.out]; exact pow_step hd.out), HM, hb.alloc hb.size _⟩
      case measure => simp only [intOf]; omega
    · obtain rfl : k = 0 := by omega
      have HE : Hid (markD n n ByteArray.empty = out) := Lib.hid (by rw [← hm.out, markD_zero])
      have hc : (ByteArray.mk #[109]).size + out.size ≤ 40 := by show 1 + out.size ≤ 40; omega
      clear hm
      go_wp2
      go_ret
      exact ⟨by unfold markStr; rw [HE.out]; rfl, hb⟩
theorem markText_z (z : Int) (n : Nat) (w : World) (hz : z = (n : Int)) (h1 : 1 ≤ n) (hn : n ≤ 1099511627776) :
    Calls Tryz.prog 81 #[.int .i64 z] w fun e w' => e = .returned (.string (markStr n)) ∧ Below w.heap.size w w' := by
  subst hz
  exact markText_is n w h1 hn
/-- Items that are marked from k on. -/
def MarkedIt (w : World) (v : Value) (n k : Nat) : Prop := ∃ oa cap, v = .slice oa n cap ∧ (n = 0 ∨ ∃ g us, oa = some ⟨g, 0, none⟩ ∧ Row w g 137 us ∧
  ∀ i, i < n → us[i * 3]? = some (.int .i64 ((k : Int) + 3 * (i : Int))) ∧ us[i * 3 + 1]? = some (.string (markStr (k + 3 * i + 1))) ∧ us[i * 3 + 2]? = some (.int .i64 ((k : Int) + 3 * (i : Int) + 2)))
theorem MarkedIt.grown {w w' : World} {v : Value} {n k : Nat} {row : Option Nat} (h : MarkedIt w v n k) (hg : w.grownBy w' row) (hne : v.ownBlock = none ∨ v.ownBlock ≠ row) : MarkedIt w' v n k := by
  obtain ⟨oa, cap, rfl, h | ⟨g, us, rfl, h2, h3⟩⟩ := h
  · exact ⟨oa, cap, rfl, .inl h⟩
  · refine ⟨_, cap, rfl, .inr ⟨g, us, rfl, h2.grown hg ?_, h3⟩⟩
    rcases hne with h | h
    · simp [Value.ownBlock] at h
    · exact h
theorem MarkedIt.set {w : World} {v x : Value} {n k g i : Nat} {cells : List Value} (h : MarkedIt w v n k) (hr : Row w g 67 cells) : MarkedIt (w.setCell ⟨g, i, none⟩ x) v n k := by
  obtain ⟨oa, cap, rfl, h | ⟨gi, us, rfl, h2, h3⟩⟩ := h
  · exact ⟨oa, cap, rfl, .inl h⟩
  · exact ⟨_, cap, rfl, .inr ⟨gi, us, rfl, h2.other (a := ⟨g, i, none⟩) (hr.neq h2 (by decide)) x, h3⟩⟩
theorem MarkedIt.below {w w' : World} {v : Value} {n k : Nat} (h : MarkedIt w v n k) (hb : Below w.heap.size w w') : MarkedIt w' v n k := by
  obtain ⟨oa, cap, rfl, h | ⟨g, us, rfl, h2, h3⟩⟩ := h
  · exact ⟨oa, cap, rfl, .inl h⟩
  · exact ⟨_, cap, rfl, .inr ⟨g, us, rfl, h2.below hb h2.lt, h3⟩⟩
theorem grownBy_of_turns {w w' : World} {g : Nat} (h : Turns w w' g g) : w.grownBy w' (some g) := ⟨h.os, h.tape, h.output, h.size, fun k hk hne => h.rest k hk (fun e => hne (by rw [e])) (fun e => hne (by rw [e]))⟩
set_option maxRecDepth 100000 in
set_option maxHeartbeats 3200000 in
theorem markItemS_own (u : Value) (B n k : Nat) (xs : List Value) (w : World) (hn : n ≤ 1048576) (h1 : k ≤ 1099000000000) (h : w.ownsRow B 137 3 u n xs) :
    Calls Tryz.prog 49 #[u, .int .i64 (k : Int)] w fun e w' => e = .returned (.int .i64 ((k : Int) + 3 * (n : Int))) ∧ MarkedIt w' u n k ∧ w.grownBy w' u.ownBlock := by
  obtain ⟨hl, ⟨rfl, rfl⟩ | ⟨g, cap, cur, rfl, hB, hh, hnc, _, hs, ht⟩⟩ := h
  · go_enter Tryz.func49, Tryz.ntmps49
    go_wp2
    go_loopw [1, 5] (fun kv i wr => kv = .int .i64 (k : Int) ∧ i = .int .i64 0 ∧ wr = w) (fun _ _ _ => 0)
    case atStart => exact ⟨rfl, rfl, rfl⟩
    case round =>
      obtain ⟨rfl, rfl, rfl⟩ := hrel
      go_wp2
      go_ret
      exact ⟨by simp, ⟨none, 0, rfl, .inl rfl⟩, ⟨rfl, rfl, rfl, Nat.le_refl _, fun _ _ _ => rfl⟩⟩
  · have HR0 : Hid (Row w g 137 cur.toList) := Lib.hid (by unfold Row; rw [hh])
    have hvl : 3 * n ≤ cur.toList.length := by rw [Array.length_toList]; omega
    generalize cur.toList = vs at *
    clear hl hh hs ht
    go_enter Tryz.func49, Tryz.ntmps49
    go_wp2
    go_loopw [1, 5] (fun kv i wr => ∃ (j : Nat) (us : List Value), kv = .int .i64 ((k : Int) + 3 * (j : Int)) ∧ i = .int .i64 j ∧ j ≤ n ∧ us.length = vs.length ∧ Hid (∀ i, i < j → us[i * 3]? = some (.int .i64 ((k : Int) + 3 * (i : Int))) ∧ us[i * 3 + 1]? = some (.string (markStr (k + 3 * i + 1))) ∧ us[i * 3 + 2]? = some (.int .i64 ((k : Int) + 3 * (i : Int) + 2))) ∧ Row wr g 137 us ∧ Turns w wr g g) (fun _ i _ => n - (intOf i).toNat)
    case atStart => exact ⟨0, vs, by simp, rfl, Nat.zero_le _, rfl, Lib.hid (fun i hi => absurd hi (by omega)), HR0.out, Turns.id _ _⟩
    case round =>
      obtain ⟨j, us, rfl, rfl, hj, hul, hus, hR, hT⟩ := hrel
      by_cases hlt : j < n
      · obtain ⟨u0, hu0⟩ : ∃ u, us[j * 3]? = some u := ⟨_, List.getElem?_eq_getElem (by omega)⟩
        obtain ⟨u1, hu1⟩ : ∃ u, us[j * 3 + 1]? = some u := ⟨_, List.getElem?_eq_getElem (by omega)⟩
        obtain ⟨u2, hu2⟩ : ∃ u, us[j * 3 + 2]? = some u := ⟨_, List.getElem?_eq_getElem (by omega)⟩
        have c0 := hR.cell hu0
        have f0 := hR.frozen (j * 3)
        have HR := Lib.hid hR
        have HT := Lib.hid hT
        have HU := Lib.hid (And.intro hul (And.intro hu1 hu2))
        have HV := Lib.hid hvl
        clear hu0 hu1 hu2 hR hT hul hvl
        go_wp2_with fail
        refine (markText_z _ (k + 3 * j + 1) _ (by omega) (by omega) (by omega)).mono ?_
        rintro e w2 ⟨rfl, hb⟩
        have hR1 := HR.out.set (j * 3) (.int .i64 ((k : Int) + 3 * (j : Int)))
        have HR2 := Lib.hid (hR1.below hb hR1.lt)
        have HT2 : Hid (Turns w w2 g g) := Lib.hid ((HT.out.trans (Turns.set _ _ _ _)).trans (.of_below hb))
        have c1 := HR2.out.cell (i := j * 3 + 1) (v := u1) (by rw [List.getElem?_set_ne (by omega)]; exact HU.out.2.1)
        have f1 := HR2.out.frozen (j * 3 + 1)
        have c2 := HR2.out.cell (i := j * 3 + 2) (v := u2) (by rw [List.getElem?_set_ne (by omega)]; exact HU.out.2.2)
        have f2 := HR2.out.frozen (j * 3 + 2)
        have HNEW : Hid (∀ i, i < j + 1 → (((us.set (j * 3) (.int .i64 ((k : Int) + 3 * (j : Int)))).set (j * 3 + 1) (.string (markStr (k + 3 * j + 1)))).set (j * 3 + 2) (.int .i64 ((k : Int) + 3 * (j : Int) + 2)))[i * 3]? = some (.int .i64 ((k : Int) + 3 * (i : Int))) ∧
            (((us.set (j * 3) (.int .i64 ((k : Int) + 3 * (j : Int)))).set (j * 3 + 1) (.string (markStr (k + 3 * j + 1)))).set (j * 3 + 2) (.int .i64 ((k : Int) + 3 * (j : Int) + 2)))[i * 3 + 1]? = some (.string (markStr (k + 3 * i + 1))) ∧
            (((us.set (j * 3) (.int .i64 ((k : Int) + 3 * (j : Int)))).set (j * 3 + 1) (.string (markStr (k + 3 * j + 1)))).set (j * 3 + 2) (.int .i64 ((k : Int) + 3 * (j : Int) + 2)))[i * 3 + 2]? = some (.int .i64 ((k : Int) + 3 * (i : Int) + 2))) := Lib.hid (by
          intro i hi
          have hlen : 3 * j + 3 ≤ us.length := by have := HU.out.1; have := HV.out; omega
          by_cases he : i = j
          · subst he
            refine ⟨?_, ?_, ?_⟩
            · rw [List.getElem?_set_ne (by omega), List.getElem?_set_ne (by omega), List.getElem?_set_self (by omega)]
            · rw [List.getElem?_set_ne (by omega), List.getElem?_set_self (by rw [List.length_set]; omega)]
            · rw [List.getElem?_set_self (by rw [List.length_set, List.length_set]; omega)]
          · obtain ⟨q0, q1, q2⟩ := hus.out i (by omega)
            refine ⟨?_, ?_, ?_⟩
            · rw [List.getElem?_set_ne (by omega), List.getElem?_set_ne (by omega), List.getElem?_set_ne (by omega)]; exact q0
            · rw [List.getElem?_set_ne (by omega), List.getElem?_set_ne (by omega), List.getElem?_set_ne (by omega)]; exact q1
            · rw [List.getElem?_set_ne (by omega), List.getElem?_set_ne (by omega), List.getElem?_set_ne (by omega)]; exact q2)
        clear hR1 hb hus
        generalize markStr (k + 3 * j + 1) = ms at *
        go_wp2
        go_roundw
        case rel => exact ⟨j + 1, _, by go_num, by go_num, by omega, by rw [List.length_set, List.length_set, List.length_set]; exact HU.out.1, HNEW, (HR2.out.set (j * 3 + 1) _).set (j * 3 + 2) _, (HT2.out.trans (Turns.set _ _ _ _)).trans (Turns.set _ _ _ _)⟩
        case measure => simp only [intOf]; omega
      · obtain rfl : j = n := by omega
        have HP := Lib.hid (And.intro hT (And.intro hR hus.out))
        clear hT hR hul hus
        go_wp2
        go_ret
        exact ⟨rfl, ⟨_, cap, rfl, .inr ⟨g, us, rfl, HP.out.2.1, HP.out.2.2⟩⟩, grownBy_of_turns HP.out.1⟩
set_option maxRecDepth 100000 in
set_option maxHeartbeats 3200000 in
theorem heldItemS_marked (u : Value) (n k : Nat) (w : World) (hn : n ≤ 1048576) (h1 : k ≤ 1099000000000) (h : MarkedIt w u n k) :
    Calls Tryz.prog 50 #[u, .int .i64 (k : Int)] w fun e w' => e = .returned (.int .i64 ((k : Int) + 3 * (n : Int))) ∧ Below w.heap.size w w' := by
  obtain ⟨oa, cap, rfl, h⟩ := h
  have H := Lib.hid h
  clear h
  go_enter Tryz.func50, Tryz.ntmps50
  go_wp2
  go_loopw [1, 5] (fun kv i wr => ∃ j : Nat, kv = .int .i64 ((k : Int) + 3 * (j : Int)) ∧ i = .int .i64 j ∧ j ≤ n ∧ Below w.heap.size w wr) (fun _ i _ => n - (intOf i).toNat)
  case atStart => exact ⟨0, by simp, rfl, Nat.zero_le _, Below.refl _ _⟩
  case round =>
    obtain ⟨j, rfl, rfl, hj, hb⟩ := hrel
    by_cases hlt : j < n
    · rcases H.out with h | ⟨g, vs, rfl, hR, hvs⟩
      · omega
      · obtain ⟨q0, q1, q2⟩ := hvs j hlt
        have c0 := (hb.cell (p := ⟨g, j * 3, none⟩) hR.lt).trans (hR.cell q0)
        have c1 := (hb.cell (p := ⟨g, j * 3 + 1, none⟩) hR.lt).trans (hR.cell q1)
        have hq : (((k : Int) + 3 * (j : Int)) != ((k : Int) + 3 * (j : Int))) = false := by simp
        have D : ∀ d os, Calls Tryz.prog 81 #[.int .i64 ((k : Int) + 3 * (j : Int) + 1)] (Sort.grow (redrawn wr d) os) fun e w'' => e = .returned (.string (markStr (k + 3 * j + 1))) ∧ ∃ q : Regrown, w'' = Sort.grow (redrawn wr q.d) q.os :=
          fun d os => Calls.regrown_of (markText_z _ (k + 3 * j + 1) _ (by omega) (by omega) (by omega))
        have HROW := Lib.hid (And.intro hR q2)
        have HB := Lib.hid hb
        clear hR hvs q0 q1 q2 hb
        generalize markStr (k + 3 * j + 1) = ms at *
        have hss : (ms.toList != ms.toList) = false := by simp
        have e1 := cell_regrown c1
        go_wp2
        refine wp_region_quiet_below (by kernel_rfl) (by kernel_rfl) ?_
        repeat (first | go_big_quiet_step (exact D _ _) | quiet_step (exact D _ _))
        refine wpQuiet_nil ?_
        intro _ hw'
        obtain ⟨⟨dq, osq⟩, hw''⟩ := hw'
        subst hw''
        have HBE := Lib.hid (HB.out.trans ((below_regrown wr dq osq).mono HB.out.size))
        have c2 := (HBE.out.cell (p := ⟨g, j * 3 + 2, none⟩) HROW.out.1.lt).trans (HROW.out.1.cell HROW.out.2)
        have hq2 : (((k : Int) + 3 * (j : Int) + 2) != ((k : Int) + 3 * (j : Int) + 2)) = false := by simp
        clear D e1 c0 c1
        generalize Sort.grow (redrawn wr dq) osq = wx at *
        go_wp2
        go_roundw
        case rel => exact ⟨j + 1, by go_num, by go_num, by omega, HBE.out⟩
        case measure => simp only [intOf]; omega
    · obtain rfl : j = n := by omega
      go_wp2
      go_ret
      exact ⟨rfl, hb⟩
theorem markItemS_z (u : Value) (B n k : Nat) (xs : List Value) (w : World) (hn : n ≤ 1048576) (h1 : k ≤ 1099000000000) (h : w.ownsRow B 137 3 u n xs) (z : Int) (hz : z = (k : Int)) :
    Calls Tryz.prog 49 #[u, .int .i64 z] w fun e w' => e = .returned (.int .i64 ((k : Int) + 3 * (n : Int))) ∧ MarkedIt w' u n k ∧ w.grownBy w' u.ownBlock := by
  subst hz
  exact markItemS_own u B n k xs w hn h1 h
theorem heldItemS_z (u : Value) (n k : Nat) (w : World) (hn : n ≤ 1048576) (h1 : k ≤ 1099000000000) (h : MarkedIt w u n k) (z : Int) (hz : z = (k : Int)) :
    Calls Tryz.prog 50 #[u, .int .i64 z] w fun e w' => e = .returned (.int .i64 ((k : Int) + 3 * (n : Int))) ∧ Below w.heap.size w w' := by
  subst hz
  exact heldItemS_marked u n k w hn h1 h
/-- While a graph's scopes are marked. -/
structure MarkRun (w0 w : World) (B g : Nat) (us : List Sc) (hs : List Value) (k j : Nat) (cells : List Value) : Prop where
  row : Row w g 67 cells
  len : 2 * us.length ≤ cells.length
  heads : ∀ i u, hs[i]? = some u → cells[i * 2 + 1]? = some u
  done : ∀ i s u, i < j → us[i]? = some s → hs[i]? = some u → cells[i * 2]? = some (.int .i64 ((k : Int) + (marks (us.take i) : Int))) ∧ MarkedIt w u s.items.length (k + marks (us.take i) + 1)
  todo : ∀ i s u, j ≤ i → us[i]? = some s → hs[i]? = some u → ∃ xs, w.ownsRow B 137 3 u s.items.length xs
  below : Below B w0 w
  keep : ∀ (T : Nat) (t : TypeId) (vs : List Value), Row w0 T t vs → t ≠ 67 → t ≠ 137 → Row w T t vs
/-- A graph that is marked from k on. -/
def MarkedGr (w : World) (v : Value) (us : List Sc) (k : Nat) : Prop := ∃ oa cap, v = .slice oa us.length cap ∧ (us.length = 0 ∨ ∃ (g : Nat) (cells hs : List Value), oa = some ⟨g, 0, none⟩ ∧ Row w g 67 cells ∧ hs.length = us.length ∧
  ∀ (i : Nat) (s : Sc) (u : Value), us[i]? = some s → hs[i]? = some u → cells[i * 2]? = some (.int .i64 ((k : Int) + (marks (us.take i) : Int))) ∧ cells[i * 2 + 1]? = some u ∧ MarkedIt w u s.items.length (k + marks (us.take i) + 1))
theorem MarkedGr.below {w w' : World} {v : Value} {us : List Sc} {k : Nat} (h : MarkedGr w v us k) (hb : Below w.heap.size w w') : MarkedGr w' v us k := by
  obtain ⟨oa, cap, rfl, h | ⟨g, cells, hs, rfl, h2, h3, h4⟩⟩ := h
  · exact ⟨oa, cap, rfl, .inl h⟩
  · exact ⟨_, cap, rfl, .inr ⟨g, cells, hs, rfl, h2.below hb h2.lt, h3, fun i s u q1 q2 => by obtain ⟨a, b, c⟩ := h4 i s u q1 q2; exact ⟨a, b, c.below hb⟩⟩⟩
theorem below_of_grown {w w' : World} {B : Nat} {row : Option Nat} (hg : w.grownBy w' row) (hB : B ≤ w.heap.size) (hr : ∀ g, row = some g → B ≤ g) : Below B w w' :=
  ⟨hg.os, hg.tape, hg.output, hg.size, fun b hb => hg.block b (Nat.lt_of_lt_of_le hb hB) (fun e => by have := hr b e.symm; omega)⟩
/-- One scope more is marked. -/
theorem MarkRun.step {w0 w w' : World} {B g k j cap : Nat} {us : List Sc} {hs cells : List Value} (hO : OwnGr w0 B (.slice (some ⟨g, 0, none⟩) us.length cap) us hs) (h : MarkRun w0 w B g us hs k j cells) {s : Sc} {u : Value} (hs' : us[j]? = some s) (hu : hs[j]? = some u) (hB : B ≤ w0.heap.size) (hBg : B ≤ g)
    (hgr : (w.setCell ⟨g, j * 2, none⟩ (.int .i64 ((k : Int) + (marks (us.take j) : Int)))).grownBy w' u.ownBlock) (hm : MarkedIt w' u s.items.length (k + marks (us.take j) + 1)) :
    MarkRun w0 w' B g us hs k (j + 1) (cells.set (j * 2) (.int .i64 ((k : Int) + (marks (us.take j) : Int)))) := by
  obtain ⟨xs, hown⟩ := h.todo j s u (Nat.le_refl _) hs' hu
  have hjl := (List.getElem?_eq_some_iff.1 hs').1
  have hR1 := h.row.set (j * 2) (.int .i64 ((k : Int) + (marks (us.take j) : Int)))
  have hown1 := ownsRow_otherN hown h.row (by decide) (j * 2) (.int .i64 ((k : Int) + (marks (us.take j) : Int)))
  have hb1 : Below B w0 (w.setCell ⟨g, j * 2, none⟩ (.int .i64 ((k : Int) + (marks (us.take j) : Int)))) := h.below.setCell hBg _
  refine ⟨hR1.grown hgr (ownsRow_ne2 hR1 (by decide) hown1), by rw [List.length_set]; exact h.len, fun i v hv => ?_, fun i t v hi ht hv => ?_, fun i t v hi ht hv => ?_, ?_, fun T t vs hr n1 n2 => ?_⟩
  · rw [List.getElem?_set_ne (by omega)]; exact h.heads i v hv
  · by_cases he : i = j
    · subst he
      rw [hs'] at ht; cases ht
      rw [hu] at hv; cases hv
      exact ⟨List.getElem?_set_self (by have := h.len; omega), hm⟩
    · obtain ⟨a, b⟩ := h.done i t v (by omega) ht hv
      exact ⟨by rw [List.getElem?_set_ne (by omega)]; exact a, (b.set h.row).grown hgr (hO.apart i j v u he hv hu)⟩
  · obtain ⟨ys, hy⟩ := h.todo i t v (by omega) ht hv
    exact ⟨ys, ownsRow_apart (ownsRow_otherN hy h.row (by decide) (j * 2) _) hgr (hO.apart i j v u (by omega) hv hu)⟩
  · exact hb1.trans (below_of_grown hgr (Nat.le_trans hB hb1.size) (fun gg e => (hown1.lt gg e).1))
  · have hr1 := (h.keep T t vs hr n1 n2).other (a := ⟨g, j * 2, none⟩) (h.row.neq (h.keep T t vs hr n1 n2) (Ne.symm n1)) (.int .i64 ((k : Int) + (marks (us.take j) : Int)))
    exact hr1.grown hgr (ownsRow_ne2 hr1 n2 hown1)
set_option maxRecDepth 100000 in
set_option maxHeartbeats 3200000 in
theorem markScopeS_own (v : Value) (B : Nat) (us : List Sc) (hs : List Value) (k : Nat) (w : World) (hB : B ≤ w.heap.size) (hl : us.length ≤ 1000000) (hil : ∀ s ∈ us, s.items.length ≤ 1048576) (hm : marks us ≤ 1000000000) (h1 : k ≤ 1048576) (hO : OwnGr w B v us hs) :
    Calls Tryz.prog 27 #[v, .int .i64 (k : Int)] w fun e w' => e = .returned (.int .i64 ((k : Int) + (marks us : Int))) ∧ MarkedGr w' v us k ∧ Below B w w' ∧ (∀ (T : Nat) (t : TypeId) (vs : List Value), Row w T t vs → t ≠ 67 → t ≠ 137 → Row w' T t vs) := by
  have HO := Lib.hid hO
  obtain ⟨hlen, hrow, -, -⟩ := hO
  obtain ⟨hll, ⟨rfl, h0⟩ | ⟨g, cap, cur, rfl, hBg, hh, hnc, _, hsz, htk⟩⟩ := hrow
  · obtain rfl := List.eq_nil_of_length_eq_zero h0
    go_enter Tryz.func27, Tryz.ntmps27
    go_wp2
    go_loopw [1, 5] (fun kv i wr => kv = .int .i64 (k : Int) ∧ i = .int .i64 0 ∧ wr = w) (fun _ _ _ => 0)
    case atStart => exact ⟨rfl, rfl, rfl⟩
    case round =>
      obtain ⟨rfl, rfl, rfl⟩ := hrel
      go_wp2
      go_ret
      exact ⟨by simp [marks], ⟨none, 0, rfl, .inl rfl⟩, Below.refl _ _, fun _ _ _ h _ _ => h⟩
  · have HR0 : Hid (MarkRun w w B g us hs k 0 cur.toList) := Lib.hid (by
      have hrw : Row w g 67 cur.toList := by unfold Row; rw [hh]
      have h9 : cur.toList.length = cap * 2 := by rw [Array.length_toList]; exact hsz
      refine ⟨hrw, by rw [h9]; omega, fun i u hu => ?_, fun i s u hi => absurd hi (Nat.not_lt_zero _), fun i s u _ h1 h2 => ⟨_, HO.out.items i s u h1 h2⟩, Below.refl _ _, fun _ _ _ h _ _ => h⟩
      obtain ⟨s, hs'⟩ : ∃ s, us[i]? = some s := ⟨_, List.getElem?_eq_getElem (by have := (List.getElem?_eq_some_iff.1 hu).1; omega)⟩
      have h2 := (scRow_at hs' hu).2
      rw [← htk, List.getElem?_take] at h2
      split at h2
      · exact h2
      · cases h2)
    have HL := Lib.hid (And.intro hlen (And.intro hB (And.intro hBg hil)))
    generalize cur.toList = cells0 at *
    clear hll hh hsz htk hlen hB hBg hil
    go_enter Tryz.func27, Tryz.ntmps27
    go_wp2
    go_loopw [1, 5] (fun kv i wr => ∃ (j : Nat) (cells : List Value), kv = .int .i64 ((k : Int) + (marks (us.take j) : Int)) ∧ i = .int .i64 j ∧ j ≤ us.length ∧ Hid (MarkRun w wr B g us hs k j cells)) (fun _ i _ => us.length - (intOf i).toNat)
    case atStart => exact ⟨0, cells0, by simp [marks], rfl, Nat.zero_le _, HR0⟩
    case round =>
      obtain ⟨j, cells, rfl, rfl, hj, hM⟩ := hrel
      by_cases hlt : j < us.length
      · obtain ⟨s, hs'⟩ : ∃ s, us[j]? = some s := ⟨_, List.getElem?_eq_getElem hlt⟩
        obtain ⟨u, hu⟩ : ∃ u, hs[j]? = some u := ⟨_, List.getElem?_eq_getElem (by have := HL.out.1; omega)⟩
        have HST := Lib.hid (marks_step hs')
        have hle := marks_take_le us (j + 1)
        have hle2 := marks_take_le us j
        obtain ⟨xs, hown⟩ := hM.out.todo j s u (Nat.le_refl _) hs' hu
        obtain ⟨oi, ci, rfl⟩ := ownsRow_slice hown
        obtain ⟨u0, hu0⟩ : ∃ u, cells[j * 2]? = some u := ⟨_, List.getElem?_eq_getElem (by have := hM.out.len; omega)⟩
        have c0 := hM.out.row.cell hu0
        have f0 := hM.out.row.frozen (j * 2)
        have c1 := hM.out.row.cell (hM.out.heads j _ hu)
        have HS := Lib.hid (And.intro hs' hu)
        have hil : s.items.length ≤ 1048576 := HL.out.2.2.2 s (List.mem_of_getElem? hs')
        have C := Lib.hid (markItemS_z (.slice oi s.items.length ci) B s.items.length (k + marks (us.take j) + 1) xs (wr.setCell ⟨g, j * 2, none⟩ (.int .i64 ((k : Int) + (marks (us.take j) : Int)))) hil (by omega) (ownsRow_otherN hown hM.out.row (by decide) (j * 2) _))
        clear hs' hu hu0 hown
        go_wp2_with fail
        refine (C.out _ (by omega)).mono ?_
        rintro e w3 ⟨rfl, hm3, hg3⟩
        have HM3 := Lib.hid (hM.out.step HO.out HS.out.1 HS.out.2 HL.out.2.1 HL.out.2.2.1 hg3 hm3)
        have HK : Hid (((k + marks (us.take j) + 1 : Nat) : Int) + 3 * (s.items.length : Int) = (k : Int) + (marks (us.take (j + 1)) : Int)) := Lib.hid (by rw [HST.out]; omega)
        clear hm3 hg3 c0 f0 c1
        go_wp2
        go_roundw
        case rel => exact ⟨j + 1, _, by rw [← HK.out]; congr 1, by go_num, by omega, HM3⟩
        case measure => simp only [intOf]; omega
      · obtain rfl : j = us.length := by omega
        go_wp2
        go_ret
        refine ⟨by rw [List.take_length]; rfl, ⟨_, cap, rfl, .inr ⟨g, cells, hs, rfl, hM.out.row, HL.out.1, fun i s u h1 h2 => ?_⟩⟩, hM.out.below, hM.out.keep⟩
        obtain ⟨a, b⟩ := hM.out.done i s u (List.getElem?_eq_some_iff.1 h1).1 h1 h2
        exact ⟨a, hM.out.heads i u h2, b⟩
set_option maxRecDepth 100000 in
set_option maxHeartbeats 3200000 in
theorem heldScopeS_marked (v : Value) (us : List Sc) (k : Nat) (w : World) (hl : us.length ≤ 1000000) (hil : ∀ s ∈ us, s.items.length ≤ 1048576) (hm : marks us ≤ 1000000000) (h1 : k ≤ 1048576) (h : MarkedGr w v us k) :
    Calls Tryz.prog 28 #[v, .int .i64 (k : Int)] w fun e w' => e = .returned (.int .i64 ((k : Int) + (marks us : Int))) ∧ Below w.heap.size w w' := by
  obtain ⟨oa, cap, rfl, h⟩ := h
  have H := Lib.hid h
  have HIL := Lib.hid hil
  clear h hil
  go_enter Tryz.func28, Tryz.ntmps28
  go_wp2
  go_loopw [1, 5] (fun kv i wr => ∃ j : Nat, kv = .int .i64 ((k : Int) + (marks (us.take j) : Int)) ∧ i = .int .i64 j ∧ j ≤ us.length ∧ Hid (Below w.heap.size w wr)) (fun _ i _ => us.length - (intOf i).toNat)
  case atStart => exact ⟨0, by simp [marks], rfl, Nat.zero_le _, Lib.hid (Below.refl _ _)⟩
  case round =>
    obtain ⟨j, rfl, rfl, hj, hb⟩ := hrel
    by_cases hlt : j < us.length
    · rcases H.out with h | ⟨g, cells, hs, rfl, hR, hhl, hall⟩
      · omega
      · obtain ⟨s, hs'⟩ : ∃ s, us[j]? = some s := ⟨_, List.getElem?_eq_getElem hlt⟩
        obtain ⟨u, hu⟩ : ∃ u, hs[j]? = some u := ⟨_, List.getElem?_eq_getElem (by omega)⟩
        obtain ⟨q0, q1, q2⟩ := hall j s u hs' hu
        have HST := Lib.hid (marks_step hs')
        have hle := marks_take_le us (j + 1)
        have hle2 := marks_take_le us j
        have c0 := (hb.out.cell (p := ⟨g, j * 2, none⟩) hR.lt).trans (hR.cell q0)
        have c1 := (hb.out.cell (p := ⟨g, j * 2 + 1, none⟩) hR.lt).trans (hR.cell q1)
        have hq : (((k : Int) + (marks (us.take j) : Int)) != ((k : Int) + (marks (us.take j) : Int))) = false := by simp
        have C := Lib.hid (heldItemS_z u s.items.length (k + marks (us.take j) + 1) wr (HIL.out s (List.mem_of_getElem? hs')) (by omega) (q2.below hb.out))
        obtain ⟨oi, ci, rfl, -⟩ := q2
        have hneg : decide (((k + marks (us.take j) + 1 : Nat) : Int) + 3 * (s.items.length : Int) < 0) = false := by simp; omega
        clear hall q0 q1 hR hs' hu
        go_wp2_with fail
        refine (C.out _ (by omega)).mono ?_
        rintro e w3 ⟨rfl, hb3⟩
        have HB3 := Lib.hid (hb.out.trans (hb3.mono hb.out.size))
        have HK : Hid (((k + marks (us.take j) + 1 : Nat) : Int) + 3 * (s.items.length : Int) = (k : Int) + (marks (us.take (j + 1)) : Int)) := Lib.hid (by rw [HST.out]; omega)
        clear hb3 c0 c1
        go_wp2
        go_roundw
        case rel => exact ⟨j + 1, by rw [← HK.out]; congr 1, by go_num, by omega, HB3⟩
        case measure => simp only [intOf]; omega
    · obtain rfl : j = us.length := by omega
      go_wp2
      go_ret
      exact ⟨by rw [List.take_length]; rfl, hb.out⟩
set_option maxRecDepth 100000 in
theorem markGraph_own (v : Value) (B : Nat) (us : List Sc) (hs : List Value) (w : World) (hB : B ≤ w.heap.size) (hl : us.length ≤ 1000000) (hil : ∀ s ∈ us, s.items.length ≤ 1048576) (hm : marks us ≤ 1000000000) (hO : OwnGr w B v us hs) :
    Calls Tryz.prog 11 #[.agg #[v], .int .i64 1] w fun e w' => e = .returned (.int .i64 (1 + (marks us : Int))) ∧ MarkedGr w' v us 1 ∧ Below B w w' ∧ (∀ (T : Nat) (t : TypeId) (vs : List Value), Row w T t vs → t ≠ 67 → t ≠ 137 → Row w' T t vs) := by
  obtain ⟨oa, cap, rfl, -⟩ := hO.holds
  have hb0 := (Below.refl w.heap.size w).alloc (Nat.le_refl _) (.cells #[.slice oa us.length cap] 28)
  have C := Lib.hid (markScopeS_own (.slice oa us.length cap) B us hs 1 _ (Nat.le_trans hB hb0.size) hl hil hm (by omega) (hO.below hb0))
  have HB := Lib.hid (hb0.mono hB)
  clear hO hb0
  go_enter Tryz.func11, Tryz.ntmps11
  go_wp2_with fail
  refine C.out.mono ?_
  rintro e w1 ⟨rfl, hm, hb, hk⟩
  have HM := Lib.hid (And.intro hm (And.intro (HB.out.trans hb) (fun (T : Nat) (t : TypeId) (vs : List Value) (h : Row w T t vs) n1 n2 => hk T t vs (h.alloc _) n1 n2)))
  clear hm hb hk
  go_wp2
  go_ret
  exact ⟨rfl, HM.out⟩
set_option maxRecDepth 100000 in
theorem heldGraph_marked (v : Value) (us : List Sc) (w : World) (hl : us.length ≤ 1000000) (hil : ∀ s ∈ us, s.items.length ≤ 1048576) (hm : marks us ≤ 1000000000) (h : MarkedGr w v us 1) :
    Calls Tryz.prog 12 #[.agg #[v], .int .i64 1] w fun e w' => e = .returned (.int .i64 (1 + (marks us : Int))) ∧ Below w.heap.size w w' := by
  obtain ⟨oa, cap, rfl, hh⟩ := id h
  have hb0 := (Below.refl w.heap.size w).alloc (Nat.le_refl _) (.cells #[.slice oa us.length cap] 28)
  have C := Lib.hid (heldScopeS_marked (.slice oa us.length cap) us 1 _ hl hil hm (by omega) (h.below hb0))
  have hneg : decide ((1 : Int) + (marks us : Int) < 0) = false := by simp; omega
  have HB := Lib.hid hb0
  clear h hh hb0
  go_enter Tryz.func12, Tryz.ntmps12
  go_wp2_with fail
  refine C.out.mono ?_
  rintro e w1 ⟨rfl, hb⟩
  have HB2 := Lib.hid (HB.out.trans (hb.mono HB.out.size))
  clear hb
  go_wp2
  go_ret
  exact ⟨rfl, HB2.out⟩
/-- A graph and a truth, as a call hands them back. -/
def GrGot (ok : Prop) (l : List Sc) (w : World) (e : Ending) (w' : World) : Prop :=
  (¬ ok ∧ ∃ v hs, e = .returned (.tuple #[.agg #[v], .bool false]) ∧ OwnGr w' w.heap.size v [] hs ∧ Below w.heap.size w w') ∨
  (ok ∧ ∃ v hs, e = .returned (.tuple #[.agg #[v], .bool true]) ∧ OwnGr w' w.heap.size v l hs ∧ Below w.heap.size w w')
def grVal (ok : Prop) (l : List Sc) (xs : List Sc) (b : Bool) : Prop := (¬ ok ∧ xs = [] ∧ b = false) ∨ (ok ∧ xs = l ∧ b = true)
theorem OwnGr.nil (w : World) (B : Nat) : OwnGr w B (.slice none 0 0) [] [] :=
  ⟨rfl, World.ownsRow_nil _ _ _ _, fun i s u h => by simp at h, fun i j u u' _ h => by simp at h⟩
theorem GrGot.val {ok : Prop} {l : List Sc} {w w' : World} {e : Ending} (h : GrGot ok l w e w') : ∃ oa cap xs hs b, e = .returned (.tuple #[.agg #[.slice oa xs.length cap], .bool b]) ∧ grVal ok l xs b ∧ HoldsScopes w' oa xs ∧ OwnGr w' w.heap.size (.slice oa xs.length cap) xs hs ∧ Below w.heap.size w w' := by
  rcases h with ⟨h1, v, hs, rfl, ho, hb⟩ | ⟨h1, v, hs, rfl, ho, hb⟩
  · obtain ⟨oa, cap, rfl, hh⟩ := ho.holds
    exact ⟨oa, cap, [], hs, false, rfl, .inl ⟨h1, rfl, rfl⟩, hh, ho, hb⟩
  · obtain ⟨oa, cap, rfl, hh⟩ := ho.holds
    exact ⟨oa, cap, l, hs, true, rfl, .inr ⟨h1, rfl, rfl⟩, hh, ho, hb⟩
theorem grVal.same {ok : Prop} {l xs ys : List Sc} {b c : Bool} (h : grVal ok l xs b) (k : grVal ok l ys c) : xs = ys ∧ b = c := by
  rcases h with ⟨h1, h2, h3⟩ | ⟨h1, h2, h3⟩ <;> rcases k with ⟨k1, k2, k3⟩ | ⟨k1, k2, k3⟩
  · exact ⟨by rw [h2, k2], by rw [h3, k3]⟩
  · exact absurd k1 h1
  · exact absurd h1 k1
  · exact ⟨by rw [h2, k2], by rw [h3, k3]⟩
/-- Graphs small enough for the laws' marks. -/
structure SmallGr (us : List Sc) : Prop where
  len : us.length ≤ 1000
  items : ∀ s ∈ us, s.items.length ≤ 1000
theorem grVal.small {ok : Prop} {l xs : List Sc} {b : Bool} (h : grVal ok l xs b) (hl : ok → SmallGr l) : SmallGr xs := by
  rcases h with ⟨_, h2, _⟩ | ⟨h1, h2, _⟩
  · subst h2; exact ⟨by simp, fun s hs => by cases hs⟩
  · subst h2; exact hl h1
theorem marks_bound (n : Nat) : ∀ us : List Sc, (∀ s ∈ us, s.items.length ≤ n) → marks us ≤ us.length * (1 + 3 * n)
  | [], _ => by simp [marks]
  | s :: r, h => by
    have h1 := marks_bound n r (fun t ht => h t (List.mem_cons_of_mem _ ht))
    have h2 := h s List.mem_cons_self
    simp only [marks, List.length_cons, Nat.add_mul, Nat.one_mul]
    omega
theorem SmallGr.marks {us : List Sc} (h : SmallGr us) : marks us ≤ 1000000000 := by
  have h1 := marks_bound 1000 us h.items
  have h2 := Nat.mul_le_mul_right (1 + 3 * 1000) h.len
  omega
theorem OwnGr.mid {b0 b1 B : Nat} {w w' : World} {v : Value} {us : List Sc} {hs : List Value} (h : OwnGr w B v us hs) (hB : b1 ≤ B) (hm : Mid b0 b1 w w') : OwnGr w' B v us hs := by
  have key : ∀ {e : TypeId} {size n : Nat} {u : Value} {xs : List Value}, w.ownsRow B e size u n xs → w'.ownsRow B e size u n xs := fun {e size n u xs} hr => by
    have hlt := hr.lt
    obtain ⟨h1, h2 | ⟨g, cap, cur, hv, hBg, hh, r⟩⟩ := hr
    · exact ⟨h1, .inl h2⟩
    · exact ⟨h1, .inr ⟨g, cap, cur, hv, hBg, (hm.rest g (Array.getElem?_eq_some_iff.1 hh).1 (.inr (Nat.le_trans hB hBg))).trans hh, r⟩⟩
  exact ⟨h.len, key h.row, fun i s u h1 h2 => key (h.items i s u h1 h2), h.apart⟩
end Go.Proofs.YtgehpaojbnpbcaaGreatDoor
namespace Go.Proofs.YtgehpaojbnpbcaaGreatDoor
open Go Go.RowKit
end Go.Proofs.YtgehpaojbnpbcaaGreatDoor
namespace Go.Proofs.YtgehpaojbnpbcaaGreatDoor
open Go Go.RowKit
/-- The edit that a renaming is. -/
theorem edit_on {w : World} {u : Value} {f : NameF} {us : List Sc} (h : RenOn us w u f) (hn : us.length ≤ 900) (hn2 : ∀ s ∈ us, s.items.length ≤ 900) : EditOk w (.func (.func 79) #[u] #[]) us (renP us f) :=
  ⟨_, #[u], #[], rfl, .inr ⟨u, rfl⟩, enters_of Tryz.func79 (by kernel_rfl) rfl, fun W B g gs cs hs hb hB hB2 hG => apply_any us hs hn hn2 B g gs cs W h hb hB hB2 hG⟩
/-- A copy of a graph to which one edit has been made. -/
theorem with_one (ss tt : List Sc) (hF : Fair ss) (h1 : 1 ≤ ss.length) (oa : Option Addr) (cap : Nat) (u : Value) (w : World) (hc : HoldsScopes w oa ss) (hE : EditOk w u ss tt) :
    Calls Tryz.prog 77 #[.agg #[.slice oa ss.length cap], .slice (some ⟨w.heap.size, 0, none⟩) 1 1] (w.alloc (.cells #[u] 168)) fun e w' => ∃ v hs, e = .returned (.agg #[v]) ∧ OwnGr w' w.heap.size v tt hs ∧ Below w.heap.size w w' := by
  have hb := (Below.refl w.heap.size w).alloc (Nat.le_refl _) (.cells #[u] 168)
  have RF := Row.new w [u] 168
  refine (with_any ss tt hF h1 oa (some ⟨w.heap.size, 0, none⟩) cap 1 [u] (by simp) _ (hc.below hb (Nat.le_refl _)) (.inr ⟨_, 0, rfl, RF.lt, fun k z hz => by rw [Nat.zero_add]; exact RF.cell hz⟩) (.cons ?_ (.nil _))).mono ?_
  · obtain ⟨f, pb, lb, h1, h2, h3, h4⟩ := hE
    exact ⟨f, pb, lb, h1, h2, h3, fun W B g gs cs hs hW hB hB2 hG => h4 W B g gs cs hs (hb.trans (hW.mono hb.size)) (Nat.le_trans hb.size hB) hB2 hG⟩
  · rintro e w' ⟨v, hs, rfl, hO, hb'⟩
    exact ⟨v, hs, rfl, hO.lower hb.size, hb.trans (hb'.mono hb.size)⟩
end Go.Proofs.YtgehpaojbnpbcaaGreatDoor
namespace Go.Proofs.YtgehpaojbnpbcaaGreatDoor
open Go Go.RowKit
/-- A graph that may share memory, and a truth. -/
def RawGr (ok : Prop) (l : List Sc) (w : World) (e : Ending) (w' : World) : Prop :=
  (¬ ok ∧ e = .returned (.tuple #[.agg #[.slice none 0 0], .bool false]) ∧ Below w.heap.size w w') ∨
  (ok ∧ ∃ ov cv, e = .returned (.tuple #[.agg #[.slice ov l.length cv], .bool true]) ∧ HoldsScopes w' ov l ∧ Below w.heap.size w w')
theorem OwnGr.holdsAtR {w : World} {B c : Nat} {o : Option Addr} {l : List Sc} {hs : List Value} (h : OwnGr w B (.slice o l.length c) l hs) : HoldsScopes w o l := by
  obtain ⟨ov, cv, he, hh⟩ := h.holds
  simp only [Value.slice.injEq] at he
  rw [he.1]
  exact hh
end Go.Proofs.YtgehpaojbnpbcaaGreatDoor
namespace Go.Proofs.YtgehpaojbnpbcaaGreatDoor
open Go Go.RowKit Go.Maps
open Go.WideElems Go.ChangeShapes Go.WideShapes Go.MapKept Go.ChangeMaps
end Go.Proofs.YtgehpaojbnpbcaaGreatDoor
namespace Go.Proofs.YtgehpaojbnpbcaaGreatDoor
open Go Go.RowKit Go.Maps
theorem plLit_is (a b : Int) : WideAt.IsKeyLit (plLit a b) := trivial
end Go.Proofs.YtgehpaojbnpbcaaGreatDoor
namespace Go.Proofs.YtgehpaojbnpbcaaGreatDoor
open Go Go.RowKit
attribute [local go_sem ↓] field_kind
end Go.Proofs.YtgehpaojbnpbcaaGreatDoor
namespace Go.Proofs.YtgehpaojbnpbcaaGreatDoor
open Go Go.RowKit
set_option maxRecDepth 100000 in
set_option maxHeartbeats 4000000 in
theorem l7List_any (xs ys : List (Int × Int)) (ox oy : Option Addr) (cx cy : Nat) (w : World) (hx : xs.length ≤ 1000000) (hy : ys.length ≤ 1000000) (ax : ArgPlaces w ox xs) (ay : ArgPlaces w oy ys) :
    Calls Tryz.prog 60 #[.slice ox xs.length cx, .slice oy ys.length cy] w fun e w' => e = .returned (.bool (decide (xs = ys))) ∧ Below w.heap.size w w' := by
  have AX := Lib.hid ax
  have AY := Lib.hid ay
  clear ax ay
  obtain ⟨q, hq⟩ : ∃ q, decide (xs = ys) = q := ⟨_, rfl⟩
  rw [hq]
  have HQ := Lib.hid hq
  clear hq
  obtain ⟨ql, hql⟩ : ∃ ql, ((xs.length : Int) == (ys.length : Int)) = ql := ⟨_, rfl⟩
  have HL : Hid (ql = true ↔ xs.length = ys.length) := Lib.hid (by rw [← hql]; simp; omega)
  by_cases hd : ys.length < xs.length
  · have HD := Lib.hid hd
    go_enter Tryz.func60, Tryz.ntmps60
    go_wp2
    go_loopw [11] (fun i wr => ∃ k : Nat, i = .int .i64 k ∧ k ≤ ys.length ∧ Hid (∀ m, m < k → xs[m]? = ys[m]?) ∧ Hid (Below w.heap.size w wr)) (fun i _ => ys.length - (intOf i).toNat)
    case atStart => exact ⟨0, rfl, Nat.zero_le _, Lib.hid (fun m hm => absurd hm (by omega)), Lib.hid (Below.refl _ _)⟩
    case round =>
      obtain ⟨k, rfl, hk, HR, HW⟩ := hrel
      by_cases hlt : k < ys.length
      · have hlt1 : k < xs.length := by omega
        have hlt2 : k < ys.length := by omega
        obtain ⟨⟨a, b⟩, hp⟩ : ∃ p, xs[k]? = some p := ⟨_, List.getElem?_eq_getElem hlt1⟩
        obtain ⟨⟨c, d⟩, hp2⟩ : ∃ p, ys[k]? = some p := ⟨_, List.getElem?_eq_getElem hlt2⟩
        obtain ⟨b1, f1, rfl, hb1, q1⟩ := (AX.out.below HW.out).at (by omega)
        obtain ⟨b2, f2, rfl, hb2, q2⟩ := (AY.out.below HW.out).at (by omega)
        obtain ⟨x0, x1⟩ := q1 k _ hp
        obtain ⟨y0, y1⟩ := q2 k _ hp2
        have x0' := cell_drew x0
        have x1' := cell_drew x1
        have y0' := cell_drew y0
        have y1' := cell_drew y1
        dsimp only at x0 x1 y0 y1 x0' x1' y0' y1'
        have HNX : Hid ((a, b) = (c, d) → ∀ m, m < k + 1 → xs[m]? = ys[m]?) := Lib.hid (by
          intro h m hm
          by_cases he : m = k
          · subst he
            rw [hp, hp2, h]
          · exact HR.out m (by omega))
        have HBAD : Hid ((a, b) ≠ (c, d) → q = false) := Lib.hid (by
          intro h
          rw [← HQ.out]
          refine decide_eq_false fun e => h ?_
          rw [e, hp2] at hp
          exact (Option.some.inj hp).symm)
        clear hp hp2 q1 q2 hb1 hb2
        by_cases h1 : a = c
        · subst h1
          by_cases h2 : b = d
          · subst h2
            have HG := Lib.hid (HNX.out rfl)
            go_wp2
            go_region
            all_goals go_wp2
            all_goals go_roundw
            all_goals first
              | (case rel => exact ⟨k + 1, by go_num, by omega, HG, Lib.hid HW.out.drew⟩)
              | (case measure => simp only [intOf]; omega)
          · have HF := Lib.hid (HBAD.out (fun e => h2 (Prod.mk.inj e).2))
            have e1 : (b == d) = false := by simpa using h2
            go_wp2
            go_region
            all_goals go_wp2
            all_goals go_ret
            all_goals exact ⟨by rw [HF.out]; rfl, HW.out.drew⟩
        · have HF := Lib.hid (HBAD.out (fun e => h1 (Prod.mk.inj e).1))
          have e1 : (a == c) = false := by simpa using h1
          go_wp2
          go_region
          all_goals go_wp2
          all_goals go_ret
          all_goals exact ⟨by rw [HF.out]; rfl, HW.out.drew⟩
      · have hke : k = ys.length := by omega
        subst hke
        have HS : Hid (q = ql) := Lib.hid (by
          rw [← HQ.out]
          by_cases hl : xs.length = ys.length
          · rw [HL.out.2 hl]
            refine decide_eq_true (List.ext_getElem? fun m => ?_)
            by_cases hm : m < xs.length
            · exact HR.out m (by omega)
            · rw [List.getElem?_eq_none (by omega), List.getElem?_eq_none (by omega)]
          · cases ql with
            | true => exact absurd (HL.out.1 rfl) hl
            | false => exact decide_eq_false fun e => hl (by rw [e]))
        cases ql
        all_goals go_wp2
        all_goals go_ret
        all_goals exact ⟨by rw [HS.out]; rfl, HW.out⟩
  · have HD := Lib.hid hd
    go_enter Tryz.func60, Tryz.ntmps60
    go_wp2
    go_loopw [11] (fun i wr => ∃ k : Nat, i = .int .i64 k ∧ k ≤ xs.length ∧ Hid (∀ m, m < k → xs[m]? = ys[m]?) ∧ Hid (Below w.heap.size w wr)) (fun i _ => xs.length - (intOf i).toNat)
    case atStart => exact ⟨0, rfl, Nat.zero_le _, Lib.hid (fun m hm => absurd hm (by omega)), Lib.hid (Below.refl _ _)⟩
    case round =>
      obtain ⟨k, rfl, hk, HR, HW⟩ := hrel
      by_cases hlt : k < xs.length
      · have hlt1 : k < xs.length := by omega
        have hlt2 : k < ys.length := by omega
        obtain ⟨⟨a, b⟩, hp⟩ : ∃ p, xs[k]? = some p := ⟨_, List.getElem?_eq_getElem hlt1⟩
        obtain ⟨⟨c, d⟩, hp2⟩ : ∃ p, ys[k]? = some p := ⟨_, List.getElem?_eq_getElem hlt2⟩
        obtain ⟨b1, f1, rfl, hb1, q1⟩ := (AX.out.below HW.out).at (by omega)
        obtain ⟨b2, f2, rfl, hb2, q2⟩ := (AY.out.below HW.out).at (by omega)
        obtain ⟨x0, x1⟩ := q1 k _ hp
        obtain ⟨y0, y1⟩ := q2 k _ hp2
        have x0' := cell_drew x0
        have x1' := cell_drew x1
        have y0' := cell_drew y0
        have y1' := cell_drew y1
        dsimp only at x0 x1 y0 y1 x0' x1' y0' y1'
        have HNX : Hid ((a, b) = (c, d) → ∀ m, m < k + 1 → xs[m]? = ys[m]?) := Lib.hid (by
          intro h m hm
          by_cases he : m = k
          · subst he
            rw [hp, hp2, h]
          · exact HR.out m (by omega))
        have HBAD : Hid ((a, b) ≠ (c, d) → q = false) := Lib.hid (by
          intro h
          rw [← HQ.out]
          refine decide_eq_false fun e => h ?_
          rw [e, hp2] at hp
          exact (Option.some.inj hp).symm)
        clear hp hp2 q1 q2 hb1 hb2
        by_cases h1 : a = c
        · subst h1
          by_cases h2 : b = d
          · subst h2
            have HG := Lib.hid (HNX.out rfl)
            go_wp2
            go_region
            all_goals go_wp2
            all_goals go_roundw
            all_goals first
              | (case rel => exact ⟨k + 1, by go_num, by omega, HG, Lib.hid HW.out.drew⟩)
              | (case measure => simp only [intOf]; omega)
          · have HF := Lib.hid (HBAD.out (fun e => h2 (Prod.mk.inj e).2))
            have e1 : (b == d) = false := by simpa using h2
            go_wp2
            go_region
            all_goals go_wp2
            all_goals go_ret
            all_goals exact ⟨by rw [HF.out]; rfl, HW.out.drew⟩
        · have HF := Lib.hid (HBAD.out (fun e => h1 (Prod.mk.inj e).1))
          have e1 : (a == c) = false := by simpa using h1
          go_wp2
          go_region
          all_goals go_wp2
          all_goals go_ret
          all_goals exact ⟨by rw [HF.out]; rfl, HW.out.drew⟩
      · have hke : k = xs.length := by omega
        subst hke
        have HS : Hid (q = ql) := Lib.hid (by
          rw [← HQ.out]
          by_cases hl : xs.length = ys.length
          · rw [HL.out.2 hl]
            refine decide_eq_true (List.ext_getElem? fun m => ?_)
            by_cases hm : m < xs.length
            · exact HR.out m (by omega)
            · rw [List.getElem?_eq_none (by omega), List.getElem?_eq_none (by omega)]
          · cases ql with
            | true => exact absurd (HL.out.1 rfl) hl
            | false => exact decide_eq_false fun e => hl (by rw [e]))
        cases ql
        all_goals go_wp2
        all_goals go_ret
        all_goals exact ⟨by rw [HS.out]; rfl, HW.out⟩
end Go.Proofs.YtgehpaojbnpbcaaGreatDoor
namespace Go.Proofs.YtgehpaojbnpbcaaGreatDoor
open Go Go.RowKit
/-- Whether an item means something else in another graph, where it stands at the same place. -/
def chgAB (ss tt : List Sc) (q : Nat × Nat × It) : Bool := !decide (meanIt ss q = meanAt tt (q.1 : Int) (q.2.1 : Int))
theorem chgA_eq (ss tt : List Sc) : chgA ss tt = filtL (chgAB ss tt) (placed 0 ss) := rfl
set_option maxRecDepth 100000 in
set_option maxHeartbeats 8000000 in
theorem l7Changes_any (ss tt : List Sc) (hv : Valid ss) (hv2 : Valid tt) (hf : FitsScopes ss) (hf2 : FitsScopes tt) (hsub : ∀ i j x, (i, j, x) ∈ placed 0 ss → ∃ y, (i, j, y) ∈ placed 0 tt) (oa ob : Option Addr) (cap cbp : Nat) (w : World) (hc : HoldsScopes w oa ss) (hc2 : HoldsScopes w ob tt) :
    Calls Tryz.prog 35 #[.agg #[.slice oa ss.length cap], .agg #[.slice ob tt.length cbp]] w (PlsGot (chgA ss tt) w) := by
  have hb0 : Below w.heap.size w (((w.alloc (.cells #[.slice oa ss.length cap] 28)).alloc (.cells #[.slice ob tt.length cbp] 28)).alloc (.cells #[] 59)) := (((Below.refl _ _).alloc (Nat.le_refl _) _).alloc (by simp) _).alloc (by simp; omega) _
  have RG := Lib.hid (((Row.new w [.slice oa ss.length cap] 28).alloc (.cells #[.slice ob tt.length cbp] 28)).alloc (.cells #[] 59))
  have RH0 := (Row.new (w.alloc (.cells #[.slice oa ss.length cap] 28)) [.slice ob tt.length cbp] 28).alloc (.cells #[] 59)
  rw [World.size_alloc] at RH0
  have RH := Lib.hid RH0
  have hown0 : (((w.alloc (.cells #[.slice oa ss.length cap] 28)).alloc (.cells #[.slice ob tt.length cbp] 28)).alloc (.cells #[] 59)).ownsRow w.heap.size 59 2 (.slice (some ⟨w.heap.size + 1 + 1, 0, none⟩) 0 0) 0 [] := by
    have h0 := World.ownsRow_made (base := w.heap.size) (e := 59) (size := 2) ((w.alloc (.cells #[.slice oa ss.length cap] 28)).alloc (.cells #[.slice ob tt.length cbp] 28)) #[] 0 (by simp; omega) (by unfold maxLen; omega) rfl
    rw [World.size_alloc, World.size_alloc] at h0
    exact h0
  have h30 := placed_bound 0 ss 6 5 hv.count.2 hv.five
  have C3 := Lib.hid (l4Items_any ss (by have := hv.count.2; omega) (fun s hs => by have := hv.five s hs; omega) (by omega) oa cap _ (hc.below hb0 (Nat.le_refl _)))
  have HO0 := Lib.hid hown0
  have HB0 := Lib.hid hb0
  have HC := Lib.hid (And.intro hc hc2)
  have HF := Lib.hid (And.intro hf hf2)
  have HV := Lib.hid (And.intro hv (And.intro hv2 hsub))
  have g0 := RG.out.cell (i := 0) (by rfl)
  have HS1 : Hid (w.heap.size + 1 + 1 < (((w.alloc (.cells #[.slice oa ss.length cap] 28)).alloc (.cells #[.slice ob tt.length cbp] 28)).alloc (.cells #[] 59)).heap.size) := Lib.hid (by simp)
  clear hf hf2 hc hc2 hb0 hown0 RH0 hv hv2 hsub
  go_enter Tryz.func35, Tryz.ntmps35
  go_wp2_with fail
  generalize (((w.alloc (.cells #[.slice oa ss.length cap] 28)).alloc (.cells #[.slice ob tt.length cbp] 28)).alloc (.cells #[] 59)) = w2 at *
  refine C3.out.mono ?_
  rintro e w3 ⟨tl, rfl, htl, hb3⟩
  have hfar : tl = .slice none 0 0 ∨ tl.ownBlock ≠ (Value.slice (some ⟨w.heap.size + 1 + 1, 0, none⟩) 0 0).ownBlock := by
    rcases htl.2 with h1 | ⟨g, cp, cur, rfl, hgB, _⟩
    · exact .inl h1.1
    · refine .inr fun e => ?_
      simp only [Value.ownBlock, Option.some.injEq] at e
      have := HS1.out
      omega
  have HI3 : Hid (ItemsAt w w3 oa cap ss.length w2.heap.size (.slice (some ⟨w.heap.size + 1 + 1, 0, none⟩) 0 0) tl [] (plsAll (placed 0 ss)) ∧ Row w3 (w.heap.size + 1) 28 [.slice ob tt.length cbp]) := Lib.hid ⟨⟨RG.out.below hb3 RG.out.lt, ownsRow_below HO0.out hb3, htl, hfar, HB0.out.trans (hb3.mono HB0.out.size)⟩, RH.out.below hb3 RH.out.lt⟩
  obtain ⟨ot, ct, rfl, hat⟩ := argPlaces_of_owns htl
  have HLN : Hid ((plsAll (placed 0 ss)).length = (placed 0 ss).length) := Lib.hid (plsAll_length _)
  have hln : (plsAll (placed 0 ss)).length ≤ 30 := by rw [plsAll_length]; exact h30
  clear hb3 htl hat g0 hfar
  go_wp2
  go_loopw [5, 12] (fun v i wr => ∃ k : Nat, i = .int .i64 k ∧ k ≤ (plsAll (placed 0 ss)).length ∧ Hid (ItemsAt w wr oa cap ss.length w2.heap.size v (.slice ot (plsAll (placed 0 ss)).length ct) (filtL (chgAB ss tt) ((placed 0 ss).take k)) (plsAll (placed 0 ss)) ∧ Row wr (w.heap.size + 1) 28 [.slice ob tt.length cbp])) (fun _ i _ => (plsAll (placed 0 ss)).length - (intOf i).toNat)
  case atStart => exact ⟨0, rfl, Nat.zero_le _, HI3⟩
  case round =>
    obtain ⟨k, rfl, hk, hP⟩ := hrel
    by_cases hlt : k < (plsAll (placed 0 ss)).length
    · obtain ⟨⟨i, j, x⟩, hqk⟩ : ∃ q, (placed 0 ss)[k]? = some q := ⟨_, List.getElem?_eq_getElem (by rw [HLN.out] at hlt; exact hlt)⟩
      have hqm := List.mem_of_getElem? hqk
      obtain ⟨o', c', he', hat⟩ := argPlaces_of_owns hP.out.1.lst
      cases he'
      obtain ⟨b5, f5, rfl, hb5, q5⟩ := hat.at (by omega)
      obtain ⟨r0, r1⟩ := q5 k ((i : Int), (j : Int)) (plsAll_at hqk)
      have hba := (Below.refl wr.heap.size wr).alloc (Nat.le_refl _) (.cells #[.int .i64 (i : Int), .int .i64 (j : Int)] 59)
      have HPA := Lib.hid (And.intro (hP.out.1.step hba) (hP.out.2.below hba hP.out.2.lt))
      have g4 := HPA.out.1.box.cell (i := 0) (by rfl)
      have h4 := HPA.out.2.cell (i := 0) (v := .slice ob tt.length cbp) (by rfl)
      have RPB := Lib.hid (Row.new wr [.int .i64 (i : Int), .int .i64 (j : Int)] 59)
      have a0 := RPB.out.cell (i := 0) (v := .int .i64 (i : Int)) (by rfl)
      have a1 := RPB.out.cell (i := 1) (v := .int .i64 (j : Int)) (by rfl)
      have HST : Hid (filtL (chgAB ss tt) ((placed 0 ss).take (k + 1)) = filtL (chgAB ss tt) ((placed 0 ss).take k) ++ if chgAB ss tt (i, j, x) = true then [((i : Int), (j : Int))] else []) := Lib.hid (by rw [List.take_add_one, hqk]; exact filtL_snoc _ _ _)
      have HQM := Lib.hid hqm
      obtain ⟨y, hqy⟩ := HV.out.2.2 i j x hqm
      have HQ2 := Lib.hid hqy
      have hsl : (filtL (chgAB ss tt) ((placed 0 ss).take k)).length < 1000000 := by
        have h1 := filtL_length (chgAB ss tt) ((placed 0 ss).take k)
        rw [List.length_take] at h1
        omega
      obtain ⟨q, hq⟩ : ∃ q, decide (meanIt ss (i, j, x) = meanIt tt (i, j, y)) = q := ⟨_, rfl⟩
      have HQB : Hid (chgAB ss tt (i, j, x) = !q) := Lib.hid (by rw [← hq]; unfold chgAB; rw [show meanAt tt (((i, j, x) : Nat × Nat × It).1 : Int) (((i, j, x) : Nat × Nat × It).2.1 : Int) = meanIt tt (i, j, y) from meanAt_of HQ2.out])
      have HQD := Lib.hid hq
      have HML := Lib.hid (And.intro (meanIt_length HV.out.1 (i, j, x)) (meanIt_length HV.out.2.1 (i, j, y)))
      have HSZ : Hid (w.heap.size ≤ wr.heap.size) := Lib.hid hP.out.1.below.size
      clear hba q5 hat hqk hqm hq hqy
      go_wp2
      generalize wr.alloc (.cells #[.int .i64 (i : Int), .int .i64 (j : Int)] 59) = wA at *
      go_cut [23] (fun s23 wx => s23 = .bool (!q) ∧ Below wA.heap.size wA wx)
      case first =>
        refine wp_region_kept (S := fun w' => w'.cell? ⟨w.heap.size, 0, none⟩ = some (.slice oa ss.length cap) ∧ w'.cell? ⟨w.heap.size + 1, 0, none⟩ = some (.slice ob tt.length cbp) ∧ w'.cell? ⟨wr.heap.size, 0, none⟩ = some (.int .i64 (i : Int)) ∧ w'.cell? ⟨wr.heap.size, 1, none⟩ = some (.int .i64 (j : Int))) 20 (by kernel_rfl) ?_
        have hS0 := And.intro (cell_drew g4) (And.intro (cell_drew h4) (And.intro (cell_drew a0) (cell_drew a1)))
        refine KeptAny.take (i := 0) (v := ?_) (by kernel_rfl) rfl rfl (by kernel_rfl) (by kernel_rfl) (by kernel_rfl) (fun _ _ _ h => h) (by rfl) (fun w' hw' => ?_) (fun _ => rfl) hS0 ?_
        rotate_left
        · (obtain ⟨g0, g1, g2, g3⟩ := hw'; go_simp; try with_reducible rfl)
        refine KeptAny.take (i := 1) (v := ?_) (by kernel_rfl) rfl rfl (by kernel_rfl) (by kernel_rfl) (by kernel_rfl) (fun _ _ _ h => h) (by rfl) (fun w' hw' => ?_) (fun _ => rfl) hS0 ?_
        rotate_left
        · (obtain ⟨g0, g1, g2, g3⟩ := hw'; go_simp; try with_reducible rfl)
        refine KeptAny.take (i := 3) (v := ?_) (by kernel_rfl) rfl rfl (by kernel_rfl) (by kernel_rfl) (by kernel_rfl) (fun _ _ _ h => h) (by rfl) (fun w' hw' => ?_) (fun _ => rfl) hS0 ?_
        rotate_left
        · (obtain ⟨g0, g1, g2, g3⟩ := hw'; go_simp; try with_reducible rfl)
        refine KeptAny.take (i := 4) (v := ?_) (by kernel_rfl) rfl rfl (by kernel_rfl) (by kernel_rfl) (by kernel_rfl) (fun _ _ _ h => h) (by rfl) (fun w' hw' => ?_) (fun _ => rfl) hS0 ?_
        rotate_left
        · (obtain ⟨g0, g1, g2, g3⟩ := hw'; go_simp; try with_reducible rfl)
        have HD0 : Hid (Below wA.heap.size wA wA.drew) := Lib.hid ((Below.refl _ _).drew)
        have HS0 := Lib.hid hS0
        clear hS0 g4 h4 a0 a1
        refine KeptAny.one (i := 2) (by kernel_rfl) rfl (by rfl) (fun K hK => ?_)
        go_simp
        refine ⟨trivial, ?_⟩
        refine ((callsIn_wide (n := 5)).2 (specResolve_any ss HV.out.1 HF.out.1 oa cap HQM.out _ (HC.out.1.below (HPA.out.1.below.trans (HD0.out.mono HPA.out.1.below.size)) (Nat.le_refl _)))).mono ?_
        rintro e wa ⟨va, rfl, hown, hb⟩
        obtain ⟨o1, c1, rfl, hA⟩ := argPlaces_of_owns hown
        have HD1 := Lib.hid (HD0.out.trans (hb.mono HD0.out.size))
        have HS1a := Lib.hid (And.intro (cell_grow hb HS0.out.1) (And.intro (cell_grow hb HS0.out.2.1) (And.intro (cell_grow hb HS0.out.2.2.1) (cell_grow hb HS0.out.2.2.2))))
        have HA := Lib.hid hA
        clear hb hown hA
        refine hK.out _ _ HS1a.out (fun _ => ?_)
        clear hK
        refine KeptAny.one (i := 5) (by kernel_rfl) rfl (by rfl) (fun K hK => ?_)
        go_simp
        refine ⟨trivial, ?_⟩
        refine ((callsIn_wide (n := 5)).2 (specResolve_any tt HV.out.2.1 HF.out.2 ob cbp HQ2.out _ (HC.out.2.below (HPA.out.1.below.trans (HD1.out.mono HPA.out.1.below.size)) (Nat.le_refl _)))).mono ?_
        rintro e wb ⟨vb, rfl, hown, hb⟩
        obtain ⟨o2, c2, rfl, hB⟩ := argPlaces_of_owns hown
        have HD2 := Lib.hid (HD1.out.trans (hb.mono HD1.out.size))
        have HS2a := Lib.hid (And.intro (cell_grow hb HS1a.out.1) (And.intro (cell_grow hb HS1a.out.2.1) (And.intro (cell_grow hb HS1a.out.2.2.1) (cell_grow hb HS1a.out.2.2.2))))
        have HA2 := Lib.hid (HA.out.below hb)
        have HBP := Lib.hid hB
        clear hb hown hB
        refine hK.out _ _ HS2a.out (fun _ => ?_)
        clear hK
        refine KeptAny.one (i := 6) (by kernel_rfl) rfl (by rfl) (fun K hK => ?_)
        go_simp
        refine ⟨trivial, ?_⟩
        refine ((callsIn_wide (n := 5)).2 (l7List_any (meanIt ss (i, j, x)) (meanIt tt (i, j, y)) o1 o2 c1 c2 _ (Nat.le_trans HML.out.1 (by decide)) (Nat.le_trans HML.out.2 (by decide)) HA2.out HBP.out)).mono ?_
        rintro e wc ⟨rfl, hb⟩
        rw [HQD.out]
        have HD3 := Lib.hid (HD2.out.trans (hb.mono HD2.out.size))
        have HS3 := Lib.hid (And.intro (cell_grow hb HS2a.out.1) (And.intro (cell_grow hb HS2a.out.2.1) (And.intro (cell_grow hb HS2a.out.2.2.1) (cell_grow hb HS2a.out.2.2.2))))
        clear hb
        refine hK.out _ _ HS3.out (fun _ => ?_)
        clear hK
        refine KeptAny.one (i := 7) (by kernel_rfl) rfl (by rfl) (fun K hK => ?_)
        go_simp
        refine hK.out _ _ HS3.out (fun _ => ?_)
        clear hK
        refine KeptAny.done (by kernel_rfl) ?_ _
        go_wp2
        go_meet
        exact ⟨rfl, HD3.out⟩
      case rest =>
        obtain ⟨rfl, hbc⟩ := hcut
        have HP5 := Lib.hid (And.intro (HPA.out.1.step hbc) (HPA.out.2.below hbc HPA.out.2.lt))
        have RP5 := Lib.hid (RPB.out.below hbc RPB.out.lt)
        have p0 := RP5.out.cell (i := 0) (v := .int .i64 (i : Int)) (by rfl)
        have p1 := RP5.out.cell (i := 1) (v := .int .i64 (j : Int)) (by rfl)
        have HSZ5 := Lib.hid (Nat.le_trans HPA.out.1.below.size hbc.size)
        clear hbc g4 h4 r0 r1 a0 a1
        cases q
        · have HE : Hid (filtL (chgAB ss tt) ((placed 0 ss).take (k + 1)) = filtL (chgAB ss tt) ((placed 0 ss).take k) ++ [((i : Int), (j : Int))]) := Lib.hid (by rw [HST.out, show chgAB ss tt (i, j, x) = true from HQB.out]; rfl)
          obtain ⟨v', w7, hrun, hown', hgrow, hbl⟩ := append_place_at HP5.out.1.row (i : Int) (j : Int) hsl HSZ5.out 36
          have HP7 : Hid (ItemsAt w w7 oa cap ss.length w2.heap.size v' _ (filtL (chgAB ss tt) ((placed 0 ss).take (k + 1))) (plsAll (placed 0 ss)) ∧ Row w7 (w.heap.size + 1) 28 [.slice ob tt.length cbp]) := Lib.hid ⟨by rw [HE.out]; exact HP5.out.1.snoc hown' hgrow hbl, (HP5.out.2.alloc _).grown hgrow (ownsRow_ne2 HP5.out.2 (by decide) HP5.out.1.row)⟩
          have HRUN := Lib.hid hrun
          clear hown' hgrow hbl hrun
          go_wp2_with (at_builtin; refine wpList_append_run rfl _ _ 36 rfl HRUN.out ?_)
          go_wp2
          go_roundw
          case rel => exact ⟨k + 1, by go_num, by omega, HP7⟩
          case measure => simp only [intOf]; omega
        · have HE : Hid (filtL (chgAB ss tt) ((placed 0 ss).take (k + 1)) = filtL (chgAB ss tt) ((placed 0 ss).take k)) := Lib.hid (by rw [HST.out, if_neg (by rw [HQB.out]; decide), List.append_nil])
          go_wp2
          go_roundw
          case rel => exact ⟨k + 1, by go_num, by omega, by rw [HE.out]; exact HP5⟩
          case measure => simp only [intOf]; omega
    · obtain rfl : k = (plsAll (placed 0 ss)).length := by omega
      have HE : Hid ((placed 0 ss).take (plsAll (placed 0 ss)).length = placed 0 ss) := Lib.hid (by rw [HLN.out, List.take_length])
      go_wp2
      go_ret
      exact ⟨_, rfl, by have := hP.out.1.row; rw [HE.out] at this; exact this, hP.out.1.below⟩
end Go.Proofs.YtgehpaojbnpbcaaGreatDoor
namespace Go.Proofs.YtgehpaojbnpbcaaGreatDoor
open Go Go.RowKit
theorem Fair.ren {ss : List Sc} (hF : Fair ss) {f : NameF} (hf : ∀ i j s x, ss[i]? = some s → s.items[j]? = some x → (f i j x.name).size ≤ 2 ^ 63 - 1) : Fair (renP ss f) where
  count := by rw [renP_length]; exact hF.count
  items := items_ren hF.items f
  fits := hF.fits.ren hf
  nums := hF.nums.ren f
end Go.Proofs.YtgehpaojbnpbcaaGreatDoor
namespace Go.Proofs.YtgehpaojbnpbcaaGreatDoor
open Go Go.RowKit
end Go.Proofs.YtgehpaojbnpbcaaGreatDoor
