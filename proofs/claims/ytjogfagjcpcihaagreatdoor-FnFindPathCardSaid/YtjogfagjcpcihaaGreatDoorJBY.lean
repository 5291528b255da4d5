/-
  Chains of scopes, what lies within a scope, the innermost scope around two, modules of scopes, blocks, paths, as plain data. Plain facts. The contract of the iterator from a node outwards (impl's (*node).outward): the scope itself and all around it, whatever the loop's body does, as long as it leaves the cells that were there. The walks of impl's (*tree).node and nodeOf. Conditions: the argument's memory holds the graph; the package-level errors hold errors. The walk of impl's ChainOf: a scope and all around it, in a list of its own. Conditions: the argument's memory holds the graph; the package-level errors hold errors. The walks of the given l2Scope, l2Chain, ChainOf and ScopeDepth. Condition: the argument's memory holds the graph. The walks of the laws' eqIntS, markIntS, heldIntS: lists of numbers compared, marked, and found marked. Condition: the lists' memory is their own. The walk of the laws' markText: a short text comes back, and only new memory is written. Plain facts. The walks of the laws' markItemS, markScopeS, markGraph over a graph of one's own: a number from 0 on comes back, and no block turns but those of the graph. Plain facts. The walks of the laws' toPlace, eqPlace, eqPlaceS; lists of places in memory. Condition: the list has at most 2^20 places. The walks of the laws' eqPlaceS, markPlaceS, heldPlaceS: lists of places compared, marked, and found marked. Condition: the lists' memory is their own. The walks of the given l1Has, l1At and ItemAt, and of impl's ItemAt. Conditions: the argument's memory holds the graph; the package-level errors hold errors. What the walks of the exact laws over graphs share: the copies of a graph, their comparison, errors carried along. Plain facts. What the walks of the exact laws with a list of numbers and a truth share. Plain facts. What the walks of the exact laws with a list of places and a truth share. Plain facts.
-/
import Derived.Test.YtjogfagjcpcihaaGreatDoorBaseY
import Derived.Test.YtjogfagjcpcihaaGreatDoorTreeOfY
import Derived.Test.YtjogfagjcpcihaaGreatDoorWTreeOfY
import Derived.Test.YtjogfagjcpcihaaGreatDoorWImplValidY
import Derived.Maps.AppendAt
import Derived.RangeFuncBox
import Derived.Test.YtjogfagjcpcihaaGreatDoorWSpecValidY
import Derived.Laws.BytesArg
import Derived.Lib.ItoaLen
import Derived.Test.YtjogfagjcpcihaaGreatDoorWEqY
import Derived.Test.YtjogfagjcpcihaaGreatDoorPlacedY
import Derived.Test.YtjogfagjcpcihaaGreatDoorProg
import Derived.Lib.Hide
import Derived.Outline
import Derived.Deep.DeepCutAuto
import Derived.Deep.QuietTactic
import Derived.BigQuiet
import Derived.Lib.QuietBelow
import Derived.IntWalk
import Derived.Deep.RegionWith
namespace Go.Proofs.YtjogfagjcpcihaaGreatDoor
open Go Go.RowKit
/-- Each scope has an earlier one as its parent, the first one none. -/
def Climbs (ss : List Sc) : Prop := ∀ i s, ss[i]? = some s → scopeB i s = true
theorem Valid.climbs {ss : List Sc} (h : Valid ss) : Climbs ss := h.scopes
/-- The parent of a scope, if it has one. -/
def parP (ss : List Sc) (s : Nat) : Option Nat := match ss[s]? with
  | some c => if c.parent < 0 then none else some c.parent.toNat
  | none => none
def chainN (ss : List Sc) : Nat → Nat → List Nat
  | 0, _ => []
  | n + 1, s => s :: (match parP ss s with | some p => chainN ss n p | none => [])
/-- A scope and all around it, from the inside to the outside. -/
def chainP (ss : List Sc) (s : Nat) : List Nat := chainN ss (s + 1) s
theorem Climbs.par {ss : List Sc} (h : Climbs ss) {s p : Nat} (hp : parP ss s = some p) : p < s := by
  unfold parP at hp
  split at hp
  · rename_i c hc
    split at hp
    · cases hp
    · cases hp
      rcases scope_parent (h s c hc) with ⟨_, h1⟩ | ⟨q, h1, hlt⟩ <;> omega
  · cases hp
theorem par_of {ss : List Sc} {s p : Nat} {c : Sc} (hc : ss[s]? = some c) (hp : c.parent = (p : Int)) : parP ss s = some p := by
  unfold parP; simp only [hc]; rw [if_neg (by omega), hp]; simp
theorem par_none {ss : List Sc} {s : Nat} {c : Sc} (hc : ss[s]? = some c) (hp : c.parent < 0) : parP ss s = none := by
  unfold parP; simp only [hc]; rw [if_pos hp]
theorem Climbs.cases {ss : List Sc} (h : Climbs ss) {s : Nat} {c : Sc} (hc : ss[s]? = some c) : (s = 0 ∧ c.parent = -1 ∧ parP ss s = none) ∨ (∃ p : Nat, c.parent = (p : Int) ∧ p < s ∧ parP ss s = some p) := by
  rcases scope_parent (h s c hc) with ⟨h0, h1⟩ | ⟨p, h1, hlt⟩
  · exact .inl ⟨h0, h1, par_none hc (by omega)⟩
  · exact .inr ⟨p, h1, hlt, par_of hc h1⟩
theorem chainN_more {ss : List Sc} (h : Climbs ss) : ∀ (s n m : Nat), s < n → s < m → chainN ss n s = chainN ss m s := by
  intro s
  induction s using Nat.strongRecOn with
  | _ s ih =>
    intro n m hn hm
    obtain ⟨n, rfl⟩ : ∃ k, n = k + 1 := ⟨n - 1, by omega⟩
    obtain ⟨m, rfl⟩ : ∃ k, m = k + 1 := ⟨m - 1, by omega⟩
    unfold chainN
    cases e : parP ss s with
    | none => rfl
    | some p =>
      have := h.par e
      simp only
      rw [ih p this n m (by omega) (by omega)]
theorem chain_none {ss : List Sc} {s : Nat} (e : parP ss s = none) : chainP ss s = [s] := by
  unfold chainP chainN; rw [e]
theorem chain_some {ss : List Sc} (h : Climbs ss) {s p : Nat} (e : parP ss s = some p) : chainP ss s = s :: chainP ss p := by
  have hlt := h.par e
  unfold chainP
  rw [show chainN ss (s + 1) s = s :: chainN ss s p from by conv => lhs; unfold chainN; rw [e]]
  rw [chainN_more h p s (p + 1) hlt (by omega)]
theorem chain_head (ss : List Sc) (s : Nat) : ∃ t, chainP ss s = s :: t := by
  unfold chainP chainN; exact ⟨_, rfl⟩
theorem chain_le {ss : List Sc} (h : Climbs ss) : ∀ (s m : Nat), m ∈ chainP ss s → m ≤ s := by
  intro s
  induction s using Nat.strongRecOn with
  | _ s ih =>
    intro m hm
    cases e : parP ss s with
    | none => rw [chain_none e] at hm; simp at hm; omega
    | some p =>
      have := h.par e
      rw [chain_some h e] at hm
      rcases List.mem_cons.1 hm with rfl | hm
      · exact Nat.le_refl _
      · have := ih p this m hm; omega
theorem chain_length {ss : List Sc} (h : Climbs ss) : ∀ s : Nat, (chainP ss s).length ≤ s + 1 := by
  intro s
  induction s using Nat.strongRecOn with
  | _ s ih =>
    cases e : parP ss s with
    | none => rw [chain_none e]; simp
    | some p =>
      have := h.par e
      rw [chain_some h e]
      have := ih p this
      simp only [List.length_cons]; omega
/-- The place of the module of a scope. -/
def moduleP (ss : List Sc) (s : Int) : Option (Nat × Nat × It) := (placed 0 ss).find? fun q => q.2.2.kind == 1 && q.2.2.scope == s
end Go.Proofs.YtjogfagjcpcihaaGreatDoor
namespace Go.Proofs.YtjogfagjcpcihaaGreatDoor
open Go Go.RowKit Go.Maps
attribute [local go_sem] Oper.semAt_some
/-- A node with its number. -/
abbrev NdOf (ds : List Nd) := { q : Nat × Nd // ds[q.1]? = some q.2 }
def NdOf.num {ds : List Nd} (x : NdOf ds) : Nat := x.1.1
def ndArgs (d : Nd) : Array Value := #[.pointer (some ⟨d.blk, 0, none⟩)]
/-- How far out a pointer may still lead. -/
def rank (ds : List Nd) : Value → Nat
  | .pointer (some a) => (ds.map Nd.blk).idxOf a.block + 1
  | _ => 0
theorem idx_of : ∀ {l : List Nat} {i x : Nat}, l.Nodup → l[i]? = some x → l.idxOf x = i
  | y :: r, 0, x, _, h => by simp at h; subst h; simp
  | y :: r, i + 1, x, hn, h => by
    rw [List.nodup_cons] at hn
    have h' : r[i]? = some x := by simpa using h
    have hne : y ≠ x := by rintro rfl; exact hn.1 (List.mem_of_getElem? h')
    have hb : (y == x) = false := by simpa using hne
    rw [List.idxOf_cons, hb, cond_false, idx_of hn.2 h']
theorem rank_of {ds : List Nd} (h : (ds.map Nd.blk).Nodup) {i : Nat} {d : Nd} (hd : ds[i]? = some d) : rank ds (.pointer (some ⟨d.blk, 0, none⟩)) = i + 1 := by
  show (ds.map Nd.blk).idxOf d.blk + 1 = i + 1
  rw [idx_of h (i := i) (by rw [List.getElem?_map, hd]; rfl)]
theorem par_ptr {ds : List Nd} {ss : List Sc} (hP : Pars ds ss) (hC : Climbs ss) (hl : ds.length = ss.length) {i : Nat} {d : Nd} (hd : ds[i]? = some d) :
    (parP ss i = none ∧ d.par = none) ∨ ∃ p e, parP ss i = some p ∧ p < i ∧ ds[p]? = some e ∧ d.par = some ⟨e.blk, 0, none⟩ := by
  have hi := (List.getElem?_eq_some_iff.1 hd).1
  obtain ⟨c, hc⟩ : ∃ c, ss[i]? = some c := ⟨_, List.getElem?_eq_getElem (by omega)⟩
  have hp := hP i d c hd hc
  unfold newPar at hp
  rcases hC.cases hc with ⟨_, h1, h2⟩ | ⟨p, h1, hlt, h2⟩
  · rw [if_pos h1] at hp; exact .inl ⟨h2, hp⟩
  · obtain ⟨e, he⟩ : ∃ e, ds[p]? = some e := ⟨_, List.getElem?_eq_getElem (by omega)⟩
    rw [if_neg (by omega), h1, Int.toNat_natCast, he] at hp
    exact .inr ⟨p, e, h2, hlt, he, hp⟩
theorem chain_bound {ss : List Sc} (h : Climbs ss) {s : Nat} (hs : s < ss.length) : (chainP ss s).length ≤ ss.length := by have := chain_length h s; omega
set_option maxRecDepth 100000 in
set_option maxHeartbeats 4000000 in
theorem outward1_in (n : Nat) (hn : 1 ≤ n) (l Bn B T M1 M2 : Nat) (v : Value) (ds : List Nd) (ss : List Sc) (w0 : World) (hT : Tree w0 B T M1 M2 v ds) (hP : Pars ds ss) (hC : Climbs ss) (hl : ds.length = ss.length) (s : Nat) (d : Nd) (hd : ds[s]? = some d)
    (J Jx : List (NdOf ds) → World → Prop) (W : World)
    (hY : ∀ pre x W1, J pre W1 → CellsKept w0.heap.size w0 W1 → pre.length < (chainP ss s).length → YieldAt Fence.wide (n - 1) Tryz.prog l (ndArgs x.1.2) W1 fun e W' =>
      (e = .returned (.bool true) ∧ J (pre ++ [x]) W' ∧ CellsKept w0.heap.size W1 W') ∨ (e = .returned (.bool false) ∧ Jx (pre ++ [x]) W'))
    (hk : CellsKept w0.heap.size w0 W) (hBn : W.cell? ⟨Bn, 0, none⟩ = some (.pointer (some ⟨d.blk, 0, none⟩))) (h0 : J [] W) :
    CallsIn Fence.wide n Tryz.prog 106 #[.func (.yield l) #[] #[], .pointer (some ⟨Bn, 0, none⟩)] W fun e W' => (∃ v, e = .returned v) ∧
      ((∃ ys : List (NdOf ds), ys.map NdOf.num = chainP ss s ∧ J ys W') ∨ (∃ pre : List (NdOf ds), pre.map NdOf.num <+: chainP ss s ∧ Jx pre W')) := by
  have HT := Lib.hid hT
  have HP := Lib.hid hP
  have HC := Lib.hid hC
  have HL := Lib.hid hl
  have HD := Lib.hid hd
  clear hT hP hC hl hd
  refine callsIn_of_wp Tryz.func106 rfl trivial ?_ rfl
  simp only [Tryz.ntmps106, List.size_toArray, List.length_cons, List.length_nil, Nat.reduceAdd, Nat.reduceSub, Array.replicate_succ, Array.replicate_zero, List.push_toArray, List.append_toArray, List.nil_append, List.cons_append]
  gi_wp2
  gi_loopw [3] (fun p wr => ∃ (pre : List (NdOf ds)), J pre wr ∧ CellsKept w0.heap.size w0 wr ∧
      ((p = .pointer none ∧ Hid (pre.map NdOf.num = chainP ss s)) ∨ ∃ (i : Nat) (c : Nd), p = .pointer (some ⟨c.blk, 0, none⟩) ∧ Hid (ds[i]? = some c) ∧ Hid (pre.map NdOf.num ++ chainP ss i = chainP ss s))) (fun p _ => rank ds p)
  case atStart => exact ⟨[], h0, hk, .inr ⟨s, d, rfl, HD, Lib.hid rfl⟩⟩
  case round =>
    obtain ⟨pre, hJ, hkr, ⟨rfl, hpre⟩ | ⟨i, c, rfl, hc, hpre⟩⟩ := hrel
    · gi_wp2
      go_end0
      exact ⟨⟨_, rfl⟩, .inl ⟨pre, hpre.out, hJ⟩⟩
    · have hlen : pre.length < (chainP ss s).length := by
        have := congrArg List.length hpre.out
        obtain ⟨t, ht⟩ := chain_head ss i
        rw [ht] at this
        simp at this
        omega
      obtain ⟨fn, tmps, assign, body, hy, hR⟩ := hY pre ⟨(i, c), hc.out⟩ wr hJ hkr hlen
      dsimp only [ndArgs] at hy
      have HR := Lib.hid (hR.mono (R' := fun e W' => ∃ q, e = .returned (.bool q) ∧ Hid ((q = true ∧ J (pre ++ [⟨(i, c), hc.out⟩]) W' ∧ CellsKept w0.heap.size wr W') ∨ (q = false ∧ Jx (pre ++ [⟨(i, c), hc.out⟩]) W'))) (by
        rintro e W' (⟨he, h1, h2⟩ | ⟨he, h1⟩)
        · exact ⟨true, he, Lib.hid (.inl ⟨rfl, h1, h2⟩)⟩
        · exact ⟨false, he, Lib.hid (.inr ⟨rfl, h1⟩)⟩))
      have HKR := Lib.hid hkr
      have HRK := Lib.hid (rank_of HT.out.inj hc.out)
      clear hR hlen hkr
      gi_wp2
      refine HR.out.mono ?_
      rintro e W3 ⟨q, rfl, hq⟩
      rcases hq.out with ⟨rfl, hJ3, hk3⟩ | ⟨rfl, hx3⟩
      · have HK3 := Lib.hid (HKR.out.trans hk3)
        have hpc := (((HT.out.kept HK3.out (Nat.le_refl _)).node i c hc.out).2.cell (i := 1) (v := .pointer c.par) (by rfl))
        rcases par_ptr HP.out HC.out HL.out hc.out with ⟨h1, h2⟩ | ⟨p, e', h1, hlt, h2, h3⟩
        · have HE : Hid ((pre ++ [(⟨(i, c), hc.out⟩ : NdOf ds)]).map NdOf.num = chainP ss s) := Lib.hid (by rw [← hpre.out, chain_none h1, List.map_append]; rfl)
          rw [h2] at hpc
          clear hk3 h1 h2
          gi_wp2
          exact ⟨⟨_, hJ3, HK3.out, .inl ⟨rfl, HE⟩⟩, by rw [HRK.out]; simp [rank]⟩
        · have HE : Hid ((pre ++ [(⟨(i, c), hc.out⟩ : NdOf ds)]).map NdOf.num ++ chainP ss p = chainP ss s) := Lib.hid (by rw [← hpre.out, chain_some HC.out h1, List.map_append, List.append_assoc]; rfl)
          have HP2 := Lib.hid h2
          have HR2 := Lib.hid (rank_of HT.out.inj h2)
          rw [h3] at hpc
          clear hk3 h1 h2 h3
          gi_wp2
          exact ⟨⟨_, hJ3, HK3.out, .inr ⟨p, e', rfl, HP2, HE⟩⟩, by rw [HRK.out, HR2.out]; omega⟩
      · have HE : Hid ((pre ++ [(⟨(i, c), hc.out⟩ : NdOf ds)]).map NdOf.num <+: chainP ss s) := Lib.hid (by
          obtain ⟨t, ht⟩ := chain_head ss i
          rw [← hpre.out, ht, List.map_append]
          exact ⟨t, by simp [NdOf.num]⟩)
        gi_wp2
        refine bodyPost_ret (results_none rfl _ _ _) rfl ?_
        exact ⟨⟨_, rfl⟩, .inr ⟨_, HE.out, hx3⟩⟩
theorem outward_any (p : Option Addr) (w : World) :
    Calls Tryz.prog 67 #[.pointer p] w fun e w' => e = .returned (.func (.func 106) #[] #[.pointer (some ⟨w.heap.size, 0, none⟩)]) ∧ w' = w.alloc (.cells #[.pointer p] 92) := by
  go_enter Tryz.func67, Tryz.ntmps67
  go_wp2
  go_ret
  exact ⟨rfl, rfl⟩
theorem outward_stops (n : Nat) (hn : 1 ≤ n) (Bn B T M1 M2 : Nat) (v : Value) (ds : List Nd) (ss : List Sc) (w0 w : World) (hT : Tree w0 B T M1 M2 v ds) (hP : Pars ds ss) (hC : Climbs ss) (hl : ds.length = ss.length) (s : Nat) (d : Nd) (hd : ds[s]? = some d)
    (hk : CellsKept w0.heap.size w0 w) (hBn : w.cell? ⟨Bn, 0, none⟩ = some (.pointer (some ⟨d.blk, 0, none⟩))) :
    SeqStopsK Fence.wide n Tryz.prog 106 #[.pointer (some ⟨Bn, 0, none⟩)] (fun x : NdOf ds => ndArgs x.1.2) (CellsKept w0.heap.size) (fun ys => ys.map NdOf.num = chainP ss s) (fun pre => pre.map NdOf.num <+: chainP ss s) (chainP ss s).length w :=
  fun l J Jx W hW _ _ hY h0 =>
    outward1_in n hn l Bn B T M1 M2 v ds ss w0 hT hP hC hl s d hd J Jx W (fun pre x W1 h _ hlen => hY pre x W1 h hlen) (hk.trans ((CellsKept.of_below hW).mono hk.size)) ((hW.cell (p := ⟨Bn, 0, none⟩) (World.block_lt_of_cell? _ _ hBn)).trans hBn) h0
end Go.Proofs.YtjogfagjcpcihaaGreatDoor
namespace Go.Proofs.YtjogfagjcpcihaaGreatDoor
open Go Go.RowKit Go.Maps
/-- The package-level errors of scopes hold errors. -/
structure NodeErrs (w : World) : Prop where
  trees : TreeErrs w
  scope : IsErr w 8
theorem NodeErrs.at {w w' : World} (h : NodeErrs w) (hb : Below w.heap.size w w') : NodeErrs w' where
  trees := h.trees.below hb h.trees.size
  scope := h.scope.below hb (Nat.lt_of_lt_of_le (by decide) h.trees.size)
theorem TreeIs.below {w w' : World} {B T M1 M2 : Nat} {v : Value} {ds : List Nd} {ss : List Sc} (h : TreeIs w B T M1 M2 v ds ss) (hb : Below w.heap.size w w') : TreeIs w' B T M1 M2 v ds ss where
  tree := h.tree.below hb (Nat.le_refl _)
  hold := h.hold.below hb (Nat.le_refl _)
  pars := h.pars
  items := by obtain ⟨n, h1⟩ := h.items; exact ⟨n, ownsMap_below h1 hb⟩
  mods := by obtain ⟨n, h1⟩ := h.mods; exact ⟨n, ownsMap_below h1 hb⟩
  low1 := h.low1
  low2 := h.low2
theorem TreeIs.lower {w : World} {B B' T M1 M2 : Nat} {v : Value} {ds : List Nd} {ss : List Sc} (h : TreeIs w B T M1 M2 v ds ss) (hB : B' ≤ B) : TreeIs w B' T M1 M2 v ds ss where
  tree := h.tree.lower hB
  hold := h.hold
  pars := h.pars
  items := h.items
  mods := h.mods
  low1 := Nat.le_trans hB h.low1
  low2 := Nat.le_trans hB h.low2
/-- What (*tree).node answers. -/
def NodeAt (ds : List Nd) (n : Int) (w : World) (e : Ending) (w' : World) : Prop :=
  (∃ (i : Nat) (d : Nd), n = (i : Int) ∧ ds[i]? = some d ∧ e = .returned (.tuple #[.pointer (some ⟨d.blk, 0, none⟩), .nilIface]) ∧ Below w.heap.size w w') ∨
  (¬ (0 ≤ n ∧ n < (ds.length : Int)) ∧ (∃ tp p, e = .returned (.tuple #[.pointer none, .iface tp p])) ∧ Below w.heap.size w w')
set_option maxRecDepth 100000 in
theorem node_any {w : World} {B T M1 M2 : Nat} {v : Value} {ds : List Nd} (h : Tree w B T M1 M2 v ds) (hne : ds ≠ []) (hE : IsErr w 8) (n : Int) :
    Calls Tryz.prog 105 #[.pointer (some ⟨T, 0, none⟩), .int .i64 n] w (NodeAt ds n w) := by
  obtain ⟨g, cap, rfl, hB, hg, hs⟩ := h.slot hne
  have b0 : w.cell? ⟨T, 0, none⟩ = some (.slice (some ⟨g, 0, none⟩) ds.length cap) := h.box.cell (by simp)
  obtain ⟨tp, p, he⟩ := hE
  by_cases h0 : n < 0
  · have k0 : decide (n < 0) = true := by simpa using h0
    have HN : Hid (¬ (0 ≤ n ∧ n < (ds.length : Int))) := Lib.hid (by omega)
    clear h hs
    go_enter Tryz.func105, Tryz.ntmps105
    go_wp2
    go_region
    all_goals go_wp2
    all_goals go_ret2
    all_goals exact .inr ⟨HN.out, ⟨tp, p, rfl⟩, (Below.refl _ _).drew⟩
  · obtain ⟨i, rfl⟩ : ∃ i : Nat, n = (i : Int) := ⟨n.toNat, by omega⟩
    have k0 : decide (((i : Nat) : Int) < 0) = false := by simp
    by_cases h1 : i < ds.length
    · obtain ⟨d, hd⟩ : ∃ d, ds[i]? = some d := ⟨_, List.getElem?_eq_getElem h1⟩
      have s1 := hs i d hd
      have k1 : decide (((ds.length : Nat) : Int) ≤ ((i : Nat) : Int)) = false := by simp; omega
      have HD := Lib.hid hd
      unfold Nd.ptr at s1
      clear h hs hd he
      go_enter Tryz.func105, Tryz.ntmps105
      go_wp2
      go_ret2
      exact .inl ⟨i, d, rfl, HD.out, rfl, Below.refl _ _⟩
    · have k1 : decide (((ds.length : Nat) : Int) ≤ ((i : Nat) : Int)) = true := by simp; omega
      have HN : Hid (¬ (0 ≤ (i : Int) ∧ (i : Int) < (ds.length : Int))) := Lib.hid (by omega)
      clear h hs
      go_enter Tryz.func105, Tryz.ntmps105
      go_wp2
      go_region
      all_goals go_wp2
      all_goals go_ret2
      all_goals exact .inr ⟨HN.out, ⟨tp, p, rfl⟩, (Below.refl _ _).drew⟩
/-- A valid graph and one of its scopes. -/
def HasScope (ss : List Sc) (n : Int) : Prop := Valid ss ∧ 0 ≤ n ∧ n < (ss.length : Int)
/-- What nodeOf answers. -/
def NodeGot (ss : List Sc) (n : Int) (w : World) (e : Ending) (w' : World) : Prop :=
  (¬ HasScope ss n ∧ (∃ tp p, e = .returned (.tuple #[.pointer none, .pointer none, .iface tp p])) ∧ Below w.heap.size w w') ∨
  (Valid ss ∧ ∃ (i : Nat) (d : Nd) (T M1 M2 : Nat) (v : Value) (ds : List Nd), n = (i : Int) ∧ i < ss.length ∧ ds[i]? = some d ∧ e = .returned (.tuple #[.pointer (some ⟨T, 0, none⟩), .pointer (some ⟨d.blk, 0, none⟩), .nilIface]) ∧ Below w.heap.size w w' ∧ TreeIs w' w.heap.size T M1 M2 v ds ss)
theorem TreeIs.ne {w : World} {B T M1 M2 : Nat} {v : Value} {ds : List Nd} {ss : List Sc} (h : TreeIs w B T M1 M2 v ds ss) (hv : Valid ss) : ds ≠ [] := fun e => by
  have h1 := h.hold.len
  have h2 := hv.count
  rw [e, List.length_nil] at h1
  omega
set_option maxRecDepth 100000 in
theorem nodeOf_any (ss : List Sc) (hF : Fair ss) (oa : Option Addr) (cap : Nat) (n : Int) (w : World) (hc : HoldsScopes w oa ss) (hE : NodeErrs w) :
    Calls Tryz.prog 66 #[.agg #[.slice oa ss.length cap], .int .i64 n] w (NodeGot ss n w) := by
  have hb0 := (Below.refl w.heap.size w).alloc (Nat.le_refl _) (.cells #[.slice oa ss.length cap] 33)
  have C := Lib.hid (hF.tree oa cap _ (hc.below hb0 (Nat.le_refl _)) (hE.at hb0).trees)
  have HB0 := Lib.hid hb0
  have HE := Lib.hid hE
  clear hF hc hE hb0
  go_enter Tryz.func66, Tryz.ntmps66
  go_wp2_with fail
  refine C.out.mono ?_
  rintro e w1 (⟨hv, ⟨tp, p, rfl⟩, hb⟩ | ⟨hv, T, M1, M2, v, ds, rfl, hb, hT⟩)
  · have HV : Hid (¬ HasScope ss n) := Lib.hid (fun h => hv h.1)
    have HB := Lib.hid (HB0.out.trans (hb.mono HB0.out.size))
    clear hv hb
    go_wp2
    go_ret3
    exact .inl ⟨HV.out, ⟨tp, p, rfl⟩, HB.out⟩
  · have HV := Lib.hid hv
    have HB := Lib.hid (HB0.out.trans (hb.mono HB0.out.size))
    have HT := Lib.hid hT
    have C2 := Lib.hid (node_any hT.tree (hT.ne hv) (HE.out.at HB.out).scope n)
    clear hv hb hT
    go_wp2_with fail
    refine C2.out.mono ?_
    rintro e w2 (⟨i, d, rfl, hd, rfl, hb2⟩ | ⟨hn, ⟨tp, p, rfl⟩, hb2⟩)
    · have HB2 := Lib.hid (HB.out.trans (hb2.mono HB.out.size))
      have HT2 := Lib.hid ((HT.out.below hb2).lower (show w.heap.size ≤ _ from by simp))
      have HD := Lib.hid hd
      have HI : Hid (i < ss.length) := Lib.hid (by have := (List.getElem?_eq_some_iff.1 hd).1; have := HT.out.hold.len; omega)
      clear hb2 hd
      go_wp2
      go_ret3
      exact .inr ⟨HV.out, i, d, T, M1, M2, v, ds, rfl, HI.out, HD.out, rfl, HB2.out, HT2.out⟩
    · have HB2 := Lib.hid (HB.out.trans (hb2.mono HB.out.size))
      have HN : Hid (¬ HasScope ss n) := Lib.hid (fun h => hn ⟨h.2.1, by rw [HT.out.hold.len]; exact h.2.2⟩)
      clear hb2 hn
      go_wp2
      go_ret3
      exact .inl ⟨HN.out, ⟨tp, p, rfl⟩, HB2.out⟩
end Go.Proofs.YtjogfagjcpcihaaGreatDoor
namespace Go.Proofs.YtjogfagjcpcihaaGreatDoor
open Go Go.RowKit Go.Maps
attribute [local go_sem] Oper.semAt_some
theorem infoInt : (Tryz.prog.info? 3).map (fun i => (i.zero, i.size, i.bytes)) = some (some (.int .i64 0), 1, 8) := by kernel_rfl
def numVals (l : List Nat) : List Value := l.map fun (m : Nat) => Value.int .i64 (m : Int)
theorem ownsRow_lower {w : World} {B B' : Nat} {e : TypeId} {size n : Nat} {v : Value} {xs : List Value} (h : w.ownsRow B e size v n xs) (hB : B' ≤ B) : w.ownsRow B' e size v n xs := by
  obtain ⟨hl, h2 | ⟨g, cap, cur, hv, hg, hr⟩⟩ := h
  · exact ⟨hl, .inl h2⟩
  · exact ⟨hl, .inr ⟨g, cap, cur, hv, Nat.le_trans hB hg, hr⟩⟩
theorem numVals_snoc (l : List Nat) (m : Nat) : numVals (l ++ [m]) = numVals l ++ [.int .i64 (m : Int)] := by simp [numVals]
theorem cellsKept_own {α : Type} (w0 : World) {n : Nat} : OwnFrom n (fun (_ : α) W => CellsKept w0.heap.size w0 W) :=
  fun _ _ _ _ hs hg hr => ⟨Nat.le_trans hs.size hg.size, fun g vs t fr hlt hh => by
    have h1 := hs.block g vs t fr hlt hh
    refine (hg.block g (Array.getElem?_eq_some_iff.1 h1).1 (fun e => ?_)).trans h1
    obtain ⟨_, o, ho, hc⟩ := hr g e.symm
    rw [h1] at ho
    cases ho
    cases hc⟩
theorem row_own {α : Type} (n g : Nat) (t : TypeId) (f : α → List Value) : OwnFrom n (fun (s : α) W => Row W g t (f s)) :=
  fun _ _ _ _ hs hg hr => hs.grown hg (fun e => by
    obtain ⟨_, o, ho, hc⟩ := hr g e.symm
    unfold Row at hs
    rw [hs] at ho
    cases ho
    cases hc)
end Go.Proofs.YtjogfagjcpcihaaGreatDoor
namespace Go.Proofs.YtjogfagjcpcihaaGreatDoor
open Go Go.RowKit
set_option maxRecDepth 100000 in
theorem specScope_any (ss : List Sc) (hf : FitsScopes ss) (oa : Option Addr) (cap : Nat) (n : Int) (w : World) (hc : HoldsScopes w oa ss) :
    Calls Tryz.prog 55 #[.agg #[.slice oa ss.length cap], .int .i64 n] w fun e w' => ∃ b : Bool, e = .returned (.bool b) ∧ (b = true ↔ HasScope ss n) ∧ Below w.heap.size w w' := by
  have hb0 := (Below.refl w.heap.size w).alloc (Nat.le_refl _) (.cells #[.slice oa ss.length cap] 33)
  have C := Lib.hid (specValid_any ss oa cap _ hf (hc.below hb0 (Nat.le_refl _)))
  have R := Lib.hid (Row.new w [.slice oa ss.length cap] 33)
  have HB0 := Lib.hid hb0
  have hl := hf.1
  clear hf hc hb0
  go_enter Tryz.func55, Tryz.ntmps55
  go_wp2_with fail
  refine C.out.mono ?_
  rintro e w1 ⟨b, rfl, hv, hb⟩
  have HB := Lib.hid (HB0.out.trans (hb.mono HB0.out.size))
  have c1 := (R.out.below hb R.out.lt).cell (i := 0) (by rfl)
  have HV := Lib.hid hv
  clear hb hv
  cases b
  · have HN : Hid (¬ HasScope ss n) := Lib.hid (fun h => by have := HV.out.2 h.1; cases this)
    go_wp2
    go_ret
    exact ⟨false, rfl, by simp [HN.out], HB.out⟩
  · go_wp2_with fail
    refine (l1In_any _ _ _ _).mono ?_
    rintro e w2 ⟨rfl, rfl⟩
    have HN : Hid (inB n 0 ((ss.length : Int) - 1) = true ↔ HasScope ss n) := Lib.hid (by
      unfold inB HasScope
      simp only [Bool.and_eq_true, decide_eq_true_eq]
      constructor
      · intro h; exact ⟨HV.out.1 (by first | trivial | rfl), by omega, by omega⟩
      · intro h; omega)
    generalize inB n 0 ((ss.length : Int) - 1) = q at HN ⊢
    go_wp2
    go_ret
    exact ⟨q, rfl, HN.out, HB.out⟩
/-- What a given list function with a truth answers. -/
def ListGot2 (ok : Prop) (l : List Nat) (w : World) (e : Ending) (w' : World) : Prop :=
  (¬ ok ∧ ∃ g, e = .returned (.tuple #[.slice (some ⟨g, 0, none⟩) 0 0, .bool false]) ∧ Below w.heap.size w w') ∨
  (ok ∧ ∃ v, e = .returned (.tuple #[v, .bool true]) ∧ w'.ownsRow w.heap.size 3 1 v l.length (numVals l) ∧ Below w.heap.size w w')
/-- What the given list functions leave. -/
def NumsGot (l : List Nat) (w : World) (e : Ending) (w' : World) : Prop := ∃ v, e = .returned v ∧ w'.ownsRow w.heap.size 3 1 v l.length (numVals l) ∧ Below w.heap.size w w'
theorem ownsRow_ne {w : World} {g base n size : Nat} {t e : TypeId} {vs xs : List Value} {v : Value} (hr : Row w g t vs) (ht : t ≠ e) (h : w.ownsRow base e size v n xs) : some g ≠ v.ownBlock := by
  obtain ⟨hl, h2 | ⟨g', cap, cur, hv, hB, hh, _⟩⟩ := h
  · rw [h2.1]; simp [Value.ownBlock]
  · rw [hv]
    intro e'
    simp only [Value.ownBlock, Option.some.injEq] at e'
    subst e'
    unfold Row at hr
    rw [hr] at hh
    simp at hh
    exact ht hh.2
theorem below_append {W w' : World} {base k n : Nat} {v : Value} {xs : List Value} {o : Obj} (hrow : W.ownsRow base 3 1 v k xs) (hg : (W.alloc o).grownBy w' v.ownBlock) (hb : n ≤ base) (hW : n ≤ W.heap.size) : Below n W w' := by
  refine ((Below.refl n W).alloc hW o).grown hg (by simp; omega) (fun r e => ?_)
  obtain ⟨_, h2 | ⟨g', cap, cur, hv, hB, _, _⟩⟩ := hrow
  · rw [h2.1] at e; simp [Value.ownBlock] at e
  · rw [hv] at e; simp only [Value.ownBlock, Option.some.injEq] at e; omega
set_option maxRecDepth 100000 in
set_option maxHeartbeats 1600000 in
theorem specL2Chain_any (ss : List Sc) (hv : Valid ss) (oa : Option Addr) (cap : Nat) (s0 : Nat) (hs : s0 < ss.length) (w : World) (hc : HoldsScopes w oa ss) :
    Calls Tryz.prog 121 #[.agg #[.slice oa ss.length cap], .int .i64 s0] w (NumsGot (chainP ss s0) w) := by
  have HC := Lib.hid hc
  have HK := Lib.hid hv.climbs
  have h6 := hv.count.2
  have HS := Lib.hid hs
  have R0 := Lib.hid (Row.new w [.slice oa ss.length cap] 33)
  clear hc hv hs
  go_enter Tryz.func121, Tryz.ntmps121
  go_wp2
  go_loopw [1, 5] (fun sv v wr => ∃ pre : List Nat, Row wr w.heap.size 33 [.slice oa ss.length cap] ∧ wr.ownsRow w.heap.size 3 1 v pre.length (numVals pre) ∧ Below w.heap.size w wr ∧
      ((sv = .int .i64 (-1) ∧ Hid (pre = chainP ss s0)) ∨ ∃ i : Nat, sv = .int .i64 i ∧ i < ss.length ∧ Hid (pre ++ chainP ss i = chainP ss s0))) (fun sv _ _ => (intOf sv + 1).toNat)
  case atStart =>
    refine ⟨[], R0.out.alloc _, ?_, ((Below.refl _ _).alloc (Nat.le_refl _) _).alloc (by simp) _, .inr ⟨s0, rfl, HS.out, Lib.hid rfl⟩⟩
    have h0 := World.ownsRow_made (base := w.heap.size) (e := 3) (size := 1) (w.alloc (.cells #[.slice oa ss.length cap] 33)) #[] 0 (by simp) (by unfold maxLen; omega) rfl
    rw [World.size_alloc] at h0
    exact h0
  case round =>
    obtain ⟨pre, hR, hrow, hb, ⟨rfl, hpre⟩ | ⟨i, rfl, hi, hpre⟩⟩ := hrel
    · have HP := Lib.hid (And.intro hrow hb)
      clear hrow hb
      go_wp2
      go_ret
      exact ⟨_, rfl, by have := HP.out.1; rw [hpre.out] at this; exact this, HP.out.2⟩
    · obtain ⟨c, hci⟩ : ∃ c, ss[i]? = some c := ⟨_, List.getElem?_eq_getElem hi⟩
      obtain ⟨b, off, rfl, hbb, hcell⟩ := HC.out.at (by omega)
      obtain ⟨oi, ci, a0, -, -⟩ := hcell i c hci
      have hk : pre.length < 1000000 := by
        have h1 := congrArg List.length hpre.out
        have h2 := chain_bound HK.out HS.out
        rw [List.length_append] at h1
        omega
      have HROW := Lib.hid hrow
      have HBR := Lib.hid hb
      have HRR := Lib.hid hR
      have HCI := Lib.hid hci
      obtain ⟨i0, hi0, hz0, hz1, hz2⟩ := info_parts infoInt
      have g0 := hR.cell (i := 0) (by rfl)
      have a0' := (hb.cell (p := ⟨b, off + i * 2, none⟩) hbb).trans a0
      have hbs := hb.size
      clear hR hb a0 hcell hci
      go_wp2_with (at_builtin; refine wpList_append_own _ rfl _ _ 61 rfl w.heap.size 3 i0 (.int .i64 0) 1 8 Tryz.underlying61 hi0 hz0 hz1 hz2 rfl (by decide) _ _ _ rfl (hrow.alloc _) ⟨wr.heap.size, 0, none⟩ 1 1 [.int .i64 (i : Int)] rfl rfl ?c1 ?c2 ?c3 ?c4 ?c5 ?_)
      case c1 => exact cells_new _ _ _
      case c2 => intro u hu; simp only [List.mem_singleton] at hu; subst hu; rfl
      case c3 => unfold maxLen; omega
      case c4 => omega
      case c5 => simp only [World.size_alloc]; omega
      intro v' w3 hown' hgrow _
      have hB3 := below_append HROW.out hgrow (Nat.le_refl w.heap.size) hbs
      have hR3 : Row w3 w.heap.size 33 [.slice (some ⟨b, off, none⟩) ss.length cap] := (HRR.out.alloc _).grown hgrow (ownsRow_ne HRR.out (by decide) HROW.out)
      have c0 := hR3.cell (i := 0) (by rfl)
      have a3 := (hB3.cell (p := ⟨b, off + i * 2, none⟩) hbb).trans a0'
      obtain ⟨g', cap', rfl⟩ := ownsRow_succ hown'
      have HR3 := Lib.hid hR3
      have HO := Lib.hid hown'
      have HB := Lib.hid (HBR.out.trans hB3)
      have hcs := HK.out.cases HCI.out
      clear hrow hown' hgrow hB3 hR3 a0' g0
      rcases hcs with ⟨hz, h1, h2⟩ | ⟨p, h1, hlt, h2⟩
      · rw [h1] at a3
        have HE : Hid (pre ++ [i] = chainP ss s0) := Lib.hid (by rw [← hpre.out, chain_none h2])
        clear h1 h2 hz
        go_wp2
        go_roundw
        case rel => exact ⟨pre ++ [i], HR3.out, by rw [List.length_append, numVals_snoc]; exact HO.out, HB.out, .inl ⟨rfl, HE⟩⟩
        case measure => simp only [intOf]; omega
      · rw [h1] at a3
        have HE : Hid ((pre ++ [i]) ++ chainP ss p = chainP ss s0) := Lib.hid (by rw [← hpre.out, chain_some HK.out h2, List.append_assoc]; rfl)
        clear h1 h2
        go_wp2
        go_roundw
        case rel => exact ⟨pre ++ [i], HR3.out, by rw [List.length_append, numVals_snoc]; exact HO.out, HB.out, .inr ⟨p, rfl, by omega, HE⟩⟩
        case measure => simp only [intOf]; omega
set_option maxRecDepth 100000 in
theorem specChain_any (ss : List Sc) (hf : FitsScopes ss) (oa : Option Addr) (cap : Nat) (n : Int) (w : World) (hc : HoldsScopes w oa ss) :
    Calls Tryz.prog 97 #[.agg #[.slice oa ss.length cap], .int .i64 n] w (ListGot2 (HasScope ss n) (chainP ss n.toNat) w) := by
  have hb0 := (Below.refl w.heap.size w).alloc (Nat.le_refl _) (.cells #[.slice oa ss.length cap] 33)
  have C := Lib.hid (specScope_any ss hf oa cap n _ (hc.below hb0 (Nat.le_refl _)))
  have R := Lib.hid (Row.new w [.slice oa ss.length cap] 33)
  have HB0 := Lib.hid hb0
  have HC := Lib.hid hc
  clear hf hc hb0
  go_enter Tryz.func97, Tryz.ntmps97
  go_wp2_with fail
  refine C.out.mono ?_
  rintro e w1 ⟨b, rfl, hv, hb⟩
  have HB := Lib.hid (HB0.out.trans (hb.mono HB0.out.size))
  have c1 := (R.out.below hb R.out.lt).cell (i := 0) (by rfl)
  have HV := Lib.hid hv
  clear hb hv
  cases b
  · have HN : Hid (¬ HasScope ss n) := Lib.hid (fun h => by have := HV.out.2 h; cases this)
    go_wp2
    go_ret2
    exact .inl ⟨HN.out, _, rfl, HB.out.alloc HB.out.size _⟩
  · obtain ⟨hv, h0, h1⟩ := HV.out.1 rfl
    obtain ⟨s, rfl⟩ : ∃ s : Nat, n = (s : Int) := ⟨n.toNat, by omega⟩
    have C2 := Lib.hid (specL2Chain_any ss hv oa cap s (by omega) _ (HC.out.below HB.out (Nat.le_refl _)))
    have HH := Lib.hid (And.intro hv (And.intro h0 h1))
    clear hv h0 h1
    go_wp2_with fail
    refine C2.out.mono ?_
    rintro e w2 ⟨v, rfl, hrow, hb2⟩
    have HB2 := Lib.hid (HB.out.trans (hb2.mono HB.out.size))
    have HR := Lib.hid (ownsRow_lower hrow HB.out.size)
    clear hb2 hrow
    go_wp2
    go_ret2
    exact .inr ⟨HH.out, v, rfl, HR.out, HB2.out⟩
theorem ownsRow_slice {w : World} {B : Nat} {e : TypeId} {size n : Nat} {v : Value} {xs : List Value} (h : w.ownsRow B e size v n xs) : ∃ oa cap, v = .slice oa n cap := by
  obtain ⟨_, h2 | ⟨g, cap, cur, hv, _⟩⟩ := h
  · exact ⟨none, 0, by rw [h2.1, h2.2]⟩
  · exact ⟨_, _, hv⟩
theorem cell_drew {W : World} {p : Addr} {v : Value} (h : W.cell? p = some v) : W.drew.cell? p = some v := h
theorem cell_grow {W W' : World} {p : Addr} {v : Value} (hb : Below W.heap.size W W') (h : W.cell? p = some v) : W'.cell? p = some v := (hb.cell (World.block_lt_of_cell? _ _ h)).trans h
end Go.Proofs.YtjogfagjcpcihaaGreatDoor
namespace Go.Proofs.YtjogfagjcpcihaaGreatDoor
open Go Go.RowKit
/-- A slice's cells hold these numbers. -/
def HoldsInts (w : World) (oa : Option Addr) (xs : List Int) : Prop :=
  xs = [] ∨ ∃ b off, oa = some ⟨b, off, none⟩ ∧ b < w.heap.size ∧ ∀ i x, xs[i]? = some x → w.cell? ⟨b, off + i, none⟩ = some (.int .i64 x)
theorem HoldsInts.below {w w' : World} {oa : Option Addr} {xs : List Int} (h : HoldsInts w oa xs) (hb : Below w.heap.size w w') : HoldsInts w' oa xs := by
  rcases h with h | ⟨b, off, h1, h2, h3⟩
  · exact .inl h
  · exact .inr ⟨b, off, h1, Nat.lt_of_lt_of_le h2 hb.size, fun i x hx => (hb.cell (p := ⟨b, _, none⟩) h2).trans (h3 i x hx)⟩
theorem HoldsInts.at {w : World} {oa : Option Addr} {xs : List Int} (h : HoldsInts w oa xs) (hne : 0 < xs.length) : ∃ b off, oa = some ⟨b, off, none⟩ ∧ b < w.heap.size ∧ ∀ i x, xs[i]? = some x → w.cell? ⟨b, off + i, none⟩ = some (.int .i64 x) := by
  rcases h with h | h
  · subst h; simp at hne
  · exact h
def natInts (l : List Nat) : List Int := l.map fun (m : Nat) => (m : Int)
theorem holdsInts_of_owns {w : World} {B : Nat} {v : Value} {l : List Nat} (h : w.ownsRow B 3 1 v l.length (numVals l)) : ∃ oa cap, v = .slice oa (natInts l).length cap ∧ HoldsInts w oa (natInts l) := by
  have hln : (natInts l).length = l.length := by simp [natInts]
  obtain ⟨hl, h2 | ⟨g, cap, cur, hv, hB, hh, hn, _, hs, ht⟩⟩ := h
  · refine ⟨none, 0, by rw [h2.1, hln, h2.2], .inl ?_⟩
    have := List.eq_nil_of_length_eq_zero h2.2
    rw [this]; rfl
  · refine ⟨_, cap, by rw [hln]; exact hv, .inr ⟨g, 0, rfl, (Array.getElem?_eq_some_iff.1 hh).1, fun i x hx => ?_⟩⟩
    have hil := (List.getElem?_eq_some_iff.1 hx).1
    have hx' : (numVals l)[i]? = some (.int .i64 x) := by
      unfold natInts at hx
      unfold numVals
      rw [List.getElem?_map] at hx ⊢
      cases e : l[i]? with
      | none => rw [e] at hx; cases hx
      | some m => rw [e] at hx; simp at hx; subst hx; rfl
    rw [← ht, List.getElem?_take_of_lt (by omega)] at hx'
    rw [Nat.zero_add]
    simp [World.cell?, hh]
    simpa using hx'
end Go.Proofs.YtjogfagjcpcihaaGreatDoor
namespace Go.Proofs.YtjogfagjcpcihaaGreatDoor
open Go Go.RowKit
end Go.Proofs.YtjogfagjcpcihaaGreatDoor
namespace Go.Proofs.YtjogfagjcpcihaaGreatDoor
open Go Go.RowKit
end Go.Proofs.YtjogfagjcpcihaaGreatDoor
namespace Go.Proofs.YtjogfagjcpcihaaGreatDoor
open Go Go.RowKit
theorem infoPlace : (Tryz.prog.info? 26).map (fun i => (i.zero, i.size, i.bytes)) = some (some (.agg #[.int .i64 0, .int .i64 0]), 2, 16) := by kernel_rfl
/-- The places' cells. -/
def placeCells (ps : List (Int × Int)) : List Value := ps.flatMap fun p => [.int .i64 p.1, .int .i64 p.2]
/-- A slice whose cells hold places. -/
def HoldsPlaces (w : World) (b off : Nat) (ps : List (Int × Int)) : Prop :=
  ∀ i p, ps[i]? = some p → w.cell? ⟨b, off + i * 2, none⟩ = some (.int .i64 p.1) ∧ w.cell? ⟨b, off + i * 2 + 1, none⟩ = some (.int .i64 p.2)
theorem placeCells_snoc (ps : List (Int × Int)) (p : Int × Int) : placeCells (ps ++ [p]) = placeCells ps ++ [.int .i64 p.1, .int .i64 p.2] := by
  simp [placeCells]
theorem placeCells_at (ps : List (Int × Int)) : ∀ (i : Nat) (p : Int × Int), ps[i]? = some p → (placeCells ps)[i * 2]? = some (.int .i64 p.1) ∧ (placeCells ps)[i * 2 + 1]? = some (.int .i64 p.2) := by
  induction ps with
  | nil => intro i p h; simp at h
  | cons q r ih =>
    intro i p h
    have e : placeCells (q :: r) = .int .i64 q.1 :: .int .i64 q.2 :: placeCells r := rfl
    cases i with
    | zero => simp at h; subst h; rw [e]; simp
    | succ i =>
      have := ih i p (by simpa using h)
      rw [e, show (i + 1) * 2 = i * 2 + 1 + 1 from by omega]
      simpa using this
theorem HoldsPlaces.below {w w' : World} {b off B : Nat} {ps : List (Int × Int)} (h : HoldsPlaces w b off ps) (hb : Below B w w') (hB : b < B) : HoldsPlaces w' b off ps := by
  intro i p hp
  obtain ⟨h1, h2⟩ := h i p hp
  exact ⟨(hb.cell (p := ⟨b, _, none⟩) hB).trans h1, (hb.cell (p := ⟨b, _, none⟩) hB).trans h2⟩
/-- A slice of places that came in: nil, or its cells hold them. -/
def ArgPlaces (w : World) (oa : Option Addr) (ps : List (Int × Int)) : Prop :=
  ps = [] ∨ ∃ b off, oa = some ⟨b, off, none⟩ ∧ b < w.heap.size ∧ HoldsPlaces w b off ps
theorem ArgPlaces.below {w w' : World} {oa : Option Addr} {ps : List (Int × Int)} (h : ArgPlaces w oa ps) (hb : Below w.heap.size w w') : ArgPlaces w' oa ps := by
  rcases h with h | ⟨b, off, h1, h2, h3⟩
  · exact .inl h
  · exact .inr ⟨b, off, h1, Nat.lt_of_lt_of_le h2 hb.size, h3.below hb h2⟩
end Go.Proofs.YtjogfagjcpcihaaGreatDoor
namespace Go.Proofs.YtjogfagjcpcihaaGreatDoor
open Go Go.RowKit
theorem ArgPlaces.at {w : World} {oa : Option Addr} {ps : List (Int × Int)} (h : ArgPlaces w oa ps) (hne : 0 < ps.length) : ∃ b off, oa = some ⟨b, off, none⟩ ∧ b < w.heap.size ∧ HoldsPlaces w b off ps := by
  rcases h with h | h
  · subst h; simp at hne
  · exact h
theorem argPlaces_of_owns {w : World} {B : Nat} {v : Value} {ps : List (Int × Int)} (h : w.ownsRow B 26 2 v ps.length (placeCells ps)) : ∃ oa cap, v = .slice oa ps.length cap ∧ ArgPlaces w oa ps := by
  obtain ⟨hl, h2 | ⟨g, cap, cur, hv, hB, hh, hn, _, hs, ht⟩⟩ := h
  · exact ⟨none, 0, by rw [h2.1, h2.2], .inl (List.eq_nil_of_length_eq_zero h2.2)⟩
  · refine ⟨_, cap, hv, .inr ⟨g, 0, rfl, (Array.getElem?_eq_some_iff.1 hh).1, fun i p hp => ?_⟩⟩
    have hil := (List.getElem?_eq_some_iff.1 hp).1
    obtain ⟨h0, h1⟩ := placeCells_at ps i p hp
    rw [← ht] at h0 h1
    rw [List.getElem?_take_of_lt (by omega)] at h0 h1
    rw [Nat.zero_add]
    constructor
    · simp [World.cell?, hh]; simpa using h0
    · simp [World.cell?, hh]; simpa using h1
/-- A row of places that is the list's own. -/
def OwnPl (w : World) (B : Nat) (oa : Option Addr) (n : Nat) : Prop := n = 0 ∨ ∃ (g : Nat) (vs : List Value), oa = some ⟨g, 0, none⟩ ∧ B ≤ g ∧ Row w g 26 vs ∧ n * 2 ≤ vs.length
theorem ownPl_of_owns {w : World} {B n : Nat} {oa : Option Addr} {cap : Nat} {xs : List Value} (h : w.ownsRow B 26 2 (.slice oa n cap) n xs) : OwnPl w B oa n := by
  obtain ⟨hl, h2 | ⟨g, cap', cur, hv, hB, hh, hn, _, hs, ht⟩⟩ := h
  · exact .inl h2.2
  · simp only [Value.slice.injEq] at hv
    obtain ⟨rfl, _, _⟩ := hv
    exact .inr ⟨g, cur.toList, rfl, hB, hh, by rw [Array.length_toList]; omega⟩
/-- A slice of places that was appended to by one, as the operation runs it where an order is drawn. -/
theorem infoPl : (Tryz.prog.info? 26).map (fun i => (i.zero, i.size, i.bytes)) = some (some (.agg #[.int .i64 0, .int .i64 0]), 2, 16) := infoPlace
theorem cells_new2 (w : World) (x y : Value) (t : TypeId) : ∀ (j : Nat) (u : Value), [x, y][j]? = some u → (w.alloc (.cells #[x, y] t)).cell? ((⟨w.heap.size, 0, none⟩ : Addr).add j) = some u := by
  intro j u hu
  have hR := Row.new w [x, y] t
  have h2 : (⟨w.heap.size, 0, none⟩ : Addr).add j = ⟨w.heap.size, j, none⟩ := by
    unfold Addr.add
    split <;> simp_all
  rw [h2]
  exact hR.cell hu
theorem below_append2 {W w' : World} {base k n size : Nat} {e : TypeId} {v : Value} {xs : List Value} {o : Obj} (hrow : W.ownsRow base e size v k xs) (hg : (W.alloc o).grownBy w' v.ownBlock) (hb : n ≤ base) (hW : n ≤ W.heap.size) : Below n W w' := by
  refine ((Below.refl n W).alloc hW o).grown hg (by simp; omega) (fun r e => ?_)
  obtain ⟨_, h2 | ⟨g', cap, cur, hv, hB, _, _⟩⟩ := hrow
  · rw [h2.1] at e; simp [Value.ownBlock] at e
  · rw [hv] at e; simp only [Value.ownBlock, Option.some.injEq] at e; omega
/-- What a given list function of places answers, with a truth; the empty list may be one of its own. -/
def PlGot2 (ok : Prop) (l : List (Int × Int)) (w : World) (e : Ending) (w' : World) : Prop :=
  (¬ ok ∧ ∃ g, e = .returned (.tuple #[.slice (some ⟨g, 0, none⟩) 0 0, .bool false]) ∧ Below w.heap.size w w') ∨
  (ok ∧ ∃ v, e = .returned (.tuple #[v, .bool true]) ∧ w'.ownsRow w.heap.size 26 2 v l.length (placeCells l) ∧ Below w.heap.size w w')
def PlGot (ok : Prop) (l : List (Int × Int)) (w : World) (e : Ending) (w' : World) : Prop :=
  (¬ ok ∧ e = .returned (.tuple #[.slice none 0 0, .bool false]) ∧ Below w.heap.size w w') ∨
  (ok ∧ ∃ v, e = .returned (.tuple #[v, .bool true]) ∧ w'.ownsRow w.heap.size 26 2 v l.length (placeCells l) ∧ Below w.heap.size w w')
/-- What the given list functions of places leave. -/
def PlsGot (l : List (Int × Int)) (w : World) (e : Ending) (w' : World) : Prop := ∃ v, e = .returned v ∧ w'.ownsRow w.heap.size 26 2 v l.length (placeCells l) ∧ Below w.heap.size w w'
end Go.Proofs.YtjogfagjcpcihaaGreatDoor
namespace Go.Proofs.YtjogfagjcpcihaaGreatDoor
open Go Go.RowKit Go.Maps
/-- The item at a place. -/
def itemAtP (ss : List Sc) (a b : Int) : Option It := if 0 ≤ a ∧ 0 ≤ b then (ss[a.toNat]?).bind fun s => s.items[b.toNat]? else none
theorem itemAtP_nat {ss : List Sc} {i j : Nat} {s : Sc} (hs : ss[i]? = some s) : itemAtP ss (i : Int) (j : Int) = s.items[j]? := by
  unfold itemAtP
  rw [if_pos ⟨by omega, by omega⟩]
  simp [hs]
theorem itemAtP_out {ss : List Sc} {a b : Int} (h : inB a 0 ((ss.length : Int) - 1) = false) : itemAtP ss a b = none := by
  unfold itemAtP
  split
  · rename_i h0
    have : ¬ a ≤ (ss.length : Int) - 1 := by intro hle; simp [inB, h0.1, hle] at h
    rw [List.getElem?_eq_none (by omega)]; rfl
  · rfl
theorem itemAtP_out2 {ss : List Sc} {i : Nat} {s : Sc} {b : Int} (hs : ss[i]? = some s) (h : inB b 0 ((s.items.length : Int) - 1) = false) : itemAtP ss (i : Int) b = none := by
  unfold itemAtP
  split
  · rename_i h0
    have : ¬ b ≤ (s.items.length : Int) - 1 := by intro hle; simp [inB, h0.2, hle] at h
    simp only [Int.toNat_natCast, hs, Option.bind_some]
    rw [List.getElem?_eq_none (by omega)]
  · rfl
theorem l1In_below (n lo hi : Int) (w : World) : Calls Tryz.prog 90 #[.int .i64 n, .int .i64 lo, .int .i64 hi] w fun e w' => e = .returned (.bool (inB n lo hi)) ∧ Below w.heap.size w w' :=
  (l1In_any n lo hi w).mono fun _ _ ⟨h, k⟩ => ⟨h, by rw [k]; exact Below.refl _ _⟩
set_option maxRecDepth 100000 in
set_option maxHeartbeats 400000 in
theorem specHas_any (ss : List Sc) (hf : FitsScopes ss) (oa : Option Addr) (cap : Nat) (a b : Int) (w : World) (hc : HoldsScopes w oa ss) :
    Calls Tryz.prog 47 #[.agg #[.slice oa ss.length cap], .agg #[.int .i64 a, .int .i64 b]] w fun e w' => e = .returned (.bool (itemAtP ss a b).isSome) ∧ Below w.heap.size w w' := by
  have hb0 : Below w.heap.size w ((w.alloc (.cells #[.slice oa ss.length cap] 33)).alloc (.cells #[.int .i64 a, .int .i64 b] 26)) := ((Below.refl _ _).alloc (Nat.le_refl _) _).alloc (by simp) _
  have HB0 := Lib.hid hb0
  have HC := Lib.hid (hc.below hb0 (Nat.le_refl _))
  have hl := hf.1
  have HF := Lib.hid hf
  have RG := Lib.hid ((Row.new w [.slice oa ss.length cap] 33).alloc (.cells #[.int .i64 a, .int .i64 b] 26))
  have RP : Hid (Row ((w.alloc (.cells #[.slice oa ss.length cap] 33)).alloc (.cells #[.int .i64 a, .int .i64 b] 26)) (w.heap.size + 1) 26 [.int .i64 a, .int .i64 b]) := Lib.hid (by
    have := Row.new (w.alloc (.cells #[.slice oa ss.length cap] 33)) [.int .i64 a, .int .i64 b] 26
    rw [World.size_alloc] at this
    exact this)
  clear hf hc hb0
  cases h1 : inB a 0 ((ss.length : Int) - 1) with
  | false =>
    have HR : Hid ((itemAtP ss a b).isSome = false) := Lib.hid (by rw [itemAtP_out h1]; rfl)
    have C1 : ∀ W, Calls Tryz.prog 90 #[.int .i64 a, .int .i64 0, .int .i64 ((ss.length : Int) - 1)] W fun e w' => e = .returned (.bool false) ∧ Below W.heap.size W w' := fun W => by rw [← h1]; exact l1In_below _ _ _ _
    have HC1 := Lib.hid C1
    have hw1 : IntKind.i64.wrap (((ss.length : Nat) : Int) - 1) = ((ss.length : Nat) : Int) - 1 := IntWalk.i64_in _ (by omega)
    clear C1 h1
    go_enter Tryz.func47, Tryz.ntmps47
    go_wp2
    have g0 := cell_regrown (RG.out.cell (i := 0) (by rfl))
    have p0 := cell_regrown (RP.out.cell (i := 0) (by rfl))
    have cE := fun d os => Calls.regrown_of (w := (w.alloc (.cells #[.slice oa ss.length cap] 33)).alloc (.cells #[.int .i64 a, .int .i64 b] 26)) (d := d) (os := os) (HC1.out _)
    refine wp_region_quiet_below (by kernel_rfl) (by kernel_rfl) ?_
    repeat (first | go_big_quiet_step (exact cE _ _) | quiet_step (exact cE _ _))
    refine wpQuiet_nil ?_
    intro _ hw'
    obtain ⟨⟨dq, osq⟩, hw''⟩ := hw'
    subst hw''
    have HBE := Lib.hid (HB0.out.trans ((below_regrown ((w.alloc (.cells #[.slice oa ss.length cap] 33)).alloc (.cells #[.int .i64 a, .int .i64 b] 26)) dq osq).mono HB0.out.size))
    go_wp2
    go_ret
    exact ⟨by rw [HR.out]; rfl, HBE.out⟩
  | true =>
    obtain ⟨i, rfl⟩ : ∃ i : Nat, a = (i : Int) := ⟨a.toNat, by simp [inB] at h1; omega⟩
    have hi : i < ss.length := by simp [inB] at h1; omega
    obtain ⟨s, hs⟩ : ∃ s, ss[i]? = some s := ⟨_, List.getElem?_eq_getElem hi⟩
    obtain ⟨bb, off, rfl, hbb, hcell⟩ := HC.out.at (by omega)
    obtain ⟨oi, ci, a0, a1, -⟩ := hcell i s hs
    have hsl := (HF.out.2 s (List.mem_of_getElem? hs)).1
    have HR : Hid ((itemAtP ss (i : Int) b).isSome = inB b 0 ((s.items.length : Int) - 1)) := Lib.hid (by
      cases h2 : inB b 0 ((s.items.length : Int) - 1) with
      | false => rw [itemAtP_out2 hs h2]; rfl
      | true =>
        simp only [inB, Bool.and_eq_true, decide_eq_true_eq] at h2
        obtain ⟨j, rfl⟩ : ∃ j : Nat, b = (j : Int) := ⟨b.toNat, by omega⟩
        rw [itemAtP_nat hs, List.getElem?_eq_getElem (by omega)]; rfl)
    have C1 : ∀ W, Calls Tryz.prog 90 #[.int .i64 (i : Int), .int .i64 0, .int .i64 ((ss.length : Int) - 1)] W fun e w' => e = .returned (.bool true) ∧ Below W.heap.size W w' := fun W => by rw [← h1]; exact l1In_below _ _ _ _
    have HC1 := Lib.hid C1
    have hw1 : IntKind.i64.wrap (((ss.length : Nat) : Int) - 1) = ((ss.length : Nat) : Int) - 1 := IntWalk.i64_in _ (by omega)
    have hw2 : IntKind.i64.wrap (((s.items.length : Nat) : Int) - 1) = ((s.items.length : Nat) : Int) - 1 := IntWalk.i64_in _ (by omega)
    have HS := Lib.hid hs
    clear C1 h1 hcell hs
    generalize hq : inB b 0 ((s.items.length : Int) - 1) = q at HR
    have C2 : ∀ W, Calls Tryz.prog 90 #[.int .i64 b, .int .i64 0, .int .i64 ((s.items.length : Int) - 1)] W fun e w' => e = .returned (.bool q) ∧ Below W.heap.size W w' := fun W => by rw [← hq]; exact l1In_below _ _ _ _
    have HC2 := Lib.hid C2
    clear C2 hq
    go_enter Tryz.func47, Tryz.ntmps47
    go_wp2
    have g0 := cell_regrown (RG.out.cell (i := 0) (by rfl))
    have p0 := cell_regrown (RP.out.cell (i := 0) (by rfl))
    have p1 := cell_regrown (RP.out.cell (i := 1) (by rfl))
    have s1 := cell_regrown a1
    have cE := fun d os => Calls.regrown_of (w := (w.alloc (.cells #[.slice (some ⟨bb, off, none⟩) ss.length cap] 33)).alloc (.cells #[.int .i64 (i : Int), .int .i64 b] 26)) (d := d) (os := os) (HC1.out _)
    have cF := fun d os => Calls.regrown_of (w := (w.alloc (.cells #[.slice (some ⟨bb, off, none⟩) ss.length cap] 33)).alloc (.cells #[.int .i64 (i : Int), .int .i64 b] 26)) (d := d) (os := os) (HC2.out _)
    clear a0 a1
    refine wp_region_quiet_below (by kernel_rfl) (by kernel_rfl) ?_
    repeat (first | go_big_quiet_step (with_reducible first | exact cE _ _ | exact cF _ _) | quiet_step (with_reducible first | exact cE _ _ | exact cF _ _))
    refine wpQuiet_nil ?_
    intro _ hw'
    obtain ⟨⟨dq, osq⟩, hw''⟩ := hw'
    subst hw''
    have HBE := Lib.hid (HB0.out.trans ((below_regrown ((w.alloc (.cells #[.slice (some ⟨bb, off, none⟩) ss.length cap] 33)).alloc (.cells #[.int .i64 (i : Int), .int .i64 b] 26)) dq osq).mono HB0.out.size))
    go_wp2
    go_ret
    exact ⟨by rw [HR.out]; rfl, HBE.out⟩
def itV (x : It) : Value := .agg #[.int .i64 x.kind, .string x.name, .int .i64 x.scope]
def zeroIt : It := ⟨0, ⟨#[]⟩, 0⟩
set_option maxRecDepth 100000 in
set_option maxHeartbeats 1000000 in
theorem specAt_any (ss : List Sc) (hf : FitsScopes ss) (oa : Option Addr) (cap : Nat) (i j : Nat) (s : Sc) (x : It) (hs : ss[i]? = some s) (hx : s.items[j]? = some x) (w : World) (hc : HoldsScopes w oa ss) :
    Calls Tryz.prog 48 #[.agg #[.slice oa ss.length cap], .agg #[.int .i64 (i : Int), .int .i64 (j : Int)]] w fun e w' => e = .returned (itV x) ∧ Below w.heap.size w w' := by
  have hi := (List.getElem?_eq_some_iff.1 hs).1
  have hj := (List.getElem?_eq_some_iff.1 hx).1
  have hl := hf.1
  have hl2 := (hf.2 s (List.mem_of_getElem? hs)).1
  have hb0 : Below w.heap.size w (((w.alloc (.cells #[.slice oa ss.length cap] 33)).alloc (.cells #[.int .i64 (i : Int), .int .i64 (j : Int)] 26)).alloc (.cells #[.int .i64 0, .string ⟨#[]⟩, .int .i64 0] 37)) := (((Below.refl _ _).alloc (Nat.le_refl _) _).alloc (by simp) _).alloc (by simp; omega) _
  obtain ⟨bb, off, rfl, hbb, hcell⟩ := hc.at (by omega)
  obtain ⟨oi, ci, a0, a1, hci⟩ := hcell i s hs
  obtain ⟨b2, o2, rfl, hb2, hcell2⟩ := hci.at (by omega)
  obtain ⟨x0, x1, x2⟩ := hcell2 j x hx
  have a1' := (hb0.cell (p := ⟨bb, off + i * 2 + 1, none⟩) hbb).trans a1
  have x0' := (hb0.cell (p := ⟨b2, o2 + j * 3, none⟩) hb2).trans x0
  have x1' := (hb0.cell (p := ⟨b2, o2 + j * 3 + 1, none⟩) hb2).trans x1
  have x2' := (hb0.cell (p := ⟨b2, o2 + j * 3 + 2, none⟩) hb2).trans x2
  have HB0 := Lib.hid hb0
  clear hf hc hcell hcell2 hci hs hx a0 a1 x0 x1 x2 hb0
  go_enter Tryz.func48, Tryz.ntmps48
  go_wp2
  go_region
  all_goals go_wp2
  refine bodyPost_ret (v := itV x) (by simp [results, Tryz.results48, go_sem, itV]) rfl ⟨rfl, ?_⟩
  first
    | exact ((((Below.refl w.heap.size w).alloc (Nat.le_refl _) _).alloc (by simp) _).alloc (by simp; omega) _).drew
    | exact HB0.out.drew.setCell (by simp) _
/-- What ItemAt answers. -/
def ItemGot (ss : List Sc) (a b : Int) (w : World) (e : Ending) (w' : World) : Prop :=
  ∃ (x : It) (ok : Bool), e = .returned (.tuple #[itV x, .bool ok]) ∧ ((Valid ss ∧ itemAtP ss a b = some x ∧ ok = true) ∨ (¬ (Valid ss ∧ (itemAtP ss a b).isSome = true) ∧ x = zeroIt ∧ ok = false)) ∧ Below w.heap.size w w'
set_option maxRecDepth 100000 in
set_option maxHeartbeats 1000000 in
theorem specItemAt_any (ss : List Sc) (hf : FitsScopes ss) (oa : Option Addr) (cap : Nat) (a b : Int) (w : World) (hc : HoldsScopes w oa ss) :
    Calls Tryz.prog 13 #[.agg #[.slice oa ss.length cap], .agg #[.int .i64 a, .int .i64 b]] w (ItemGot ss a b w) := by
  have hb0 : Below w.heap.size w (((w.alloc (.cells #[.slice oa ss.length cap] 33)).alloc (.cells #[.int .i64 a, .int .i64 b] 26)).alloc (.cells #[.int .i64 0, .string ⟨#[]⟩, .int .i64 0] 37)) := (((Below.refl _ _).alloc (Nat.le_refl _) _).alloc (by simp) _).alloc (by simp; omega) _
  have C := Lib.hid (specValid_any ss oa cap _ hf (hc.below hb0 (Nat.le_refl _)))
  have HB0 := Lib.hid hb0
  have HC := Lib.hid hc
  have HF := Lib.hid hf
  have RG := Lib.hid (((Row.new w [.slice oa ss.length cap] 33).alloc (.cells #[.int .i64 a, .int .i64 b] 26)).alloc (.cells #[.int .i64 0, .string ⟨#[]⟩, .int .i64 0] 37))
  have RP : Hid (Row (((w.alloc (.cells #[.slice oa ss.length cap] 33)).alloc (.cells #[.int .i64 a, .int .i64 b] 26)).alloc (.cells #[.int .i64 0, .string ⟨#[]⟩, .int .i64 0] 37)) (w.heap.size + 1) 26 [.int .i64 a, .int .i64 b]) := Lib.hid (by
    have := (Row.new (w.alloc (.cells #[.slice oa ss.length cap] 33)) [.int .i64 a, .int .i64 b] 26).alloc (.cells #[.int .i64 0, .string ⟨#[]⟩, .int .i64 0] 37)
    rw [World.size_alloc] at this
    exact this)
  have RR : Hid (Row (((w.alloc (.cells #[.slice oa ss.length cap] 33)).alloc (.cells #[.int .i64 a, .int .i64 b] 26)).alloc (.cells #[.int .i64 0, .string ⟨#[]⟩, .int .i64 0] 37)) (w.heap.size + 2) 37 [.int .i64 0, .string ⟨#[]⟩, .int .i64 0]) := Lib.hid (by
    have := Row.new ((w.alloc (.cells #[.slice oa ss.length cap] 33)).alloc (.cells #[.int .i64 a, .int .i64 b] 26)) [.int .i64 0, .string ⟨#[]⟩, .int .i64 0] 37
    simp only [World.size_alloc] at this
    exact this)
  clear hf hc hb0
  go_enter Tryz.func13, Tryz.ntmps13
  go_wp2_with fail
  refine C.out.mono ?_
  rintro e w1 ⟨v, rfl, hv, hb⟩
  have HB := Lib.hid (HB0.out.trans (hb.mono HB0.out.size))
  have RG1 := Lib.hid (RG.out.below hb RG.out.lt)
  have RP1 := Lib.hid (RP.out.below hb RP.out.lt)
  have RR1 := Lib.hid (RR.out.below hb RR.out.lt)
  have HV := Lib.hid hv
  have g1 := RG1.out.cell (i := 0) (by rfl)
  have p0 := RP1.out.cell (i := 0) (by rfl)
  have p1 := RP1.out.cell (i := 1) (by rfl)
  clear hb hv
  cases v
  · have HN : Hid (¬ (Valid ss ∧ (itemAtP ss a b).isSome = true)) := Lib.hid (fun h => by have := HV.out.2 h.1; cases this)
    have r0 : w1.cell? ⟨w.heap.size + 1 + 1, 0, none⟩ = some (.int .i64 0) := RR1.out.cell (i := 0) (by rfl)
    have r1 : w1.cell? ⟨w.heap.size + 1 + 1, 1, none⟩ = some (.string ⟨#[]⟩) := RR1.out.cell (i := 1) (by rfl)
    have r2 : w1.cell? ⟨w.heap.size + 1 + 1, 2, none⟩ = some (.int .i64 0) := RR1.out.cell (i := 2) (by rfl)
    have f0 : ∀ k, w1.frozen? ⟨w.heap.size + 1 + 1, k, none⟩ = false := fun k => RR1.out.frozen k
    go_wp2
    refine bodyPost_ret (v := .tuple #[itV zeroIt, .bool false]) (by simp [results, Tryz.results13, go_sem, itV, zeroIt, r0, r1, r2]) rfl ⟨zeroIt, false, rfl, .inr ⟨HN.out, rfl, rfl⟩, ?_⟩
    exact ((HB.out.setCell (by simp; omega) _).setCell (by simp; omega) _).setCell (by simp; omega) _
  · have C2 := Lib.hid (specHas_any ss HF.out oa cap a b _ (HC.out.below HB.out (Nat.le_refl _)))
    go_wp2_with fail
    refine C2.out.mono ?_
    rintro e w2 ⟨rfl, hb2⟩
    have HB2 := Lib.hid (HB.out.trans (hb2.mono HB.out.size))
    have RG2 := Lib.hid (RG1.out.below hb2 RG1.out.lt)
    have RP2 := Lib.hid (RP1.out.below hb2 RP1.out.lt)
    have RR2 := Lib.hid (RR1.out.below hb2 RR1.out.lt)
    have g2 := RG2.out.cell (i := 0) (by rfl)
    have q0 := RP2.out.cell (i := 0) (by rfl)
    have q1 := RP2.out.cell (i := 1) (by rfl)
    clear hb2 g1 p0 p1
    cases hx : itemAtP ss a b with
    | none =>
      have HN : Hid (¬ (Valid ss ∧ (itemAtP ss a b).isSome = true)) := Lib.hid (fun h => by rw [hx] at h; simp at h)
      have r0 : w2.cell? ⟨w.heap.size + 1 + 1, 0, none⟩ = some (.int .i64 0) := RR2.out.cell (i := 0) (by rfl)
      have r1 : w2.cell? ⟨w.heap.size + 1 + 1, 1, none⟩ = some (.string ⟨#[]⟩) := RR2.out.cell (i := 1) (by rfl)
      have r2 : w2.cell? ⟨w.heap.size + 1 + 1, 2, none⟩ = some (.int .i64 0) := RR2.out.cell (i := 2) (by rfl)
      have f0 : ∀ k, w2.frozen? ⟨w.heap.size + 1 + 1, k, none⟩ = false := fun k => RR2.out.frozen k
      simp only [Option.isSome_none]
      clear hx
      go_wp2
      refine bodyPost_ret (v := .tuple #[itV zeroIt, .bool false]) (by simp [results, Tryz.results13, go_sem, itV, zeroIt, r0, r1, r2]) rfl ⟨zeroIt, false, rfl, .inr ⟨HN.out, rfl, rfl⟩, ?_⟩
      exact ((HB2.out.setCell (by simp; omega) _).setCell (by simp; omega) _).setCell (by simp; omega) _
    | some x =>
      have HX := Lib.hid hx
      have hx' := hx
      unfold itemAtP at hx'
      split at hx'
      case isFalse => cases hx'
      rename_i h0
      obtain ⟨i, rfl⟩ : ∃ i : Nat, a = (i : Int) := ⟨a.toNat, by omega⟩
      obtain ⟨j, rfl⟩ : ∃ j : Nat, b = (j : Int) := ⟨b.toNat, by omega⟩
      simp only [Int.toNat_natCast] at hx'
      obtain ⟨s, hs, hj⟩ := Option.bind_eq_some_iff.1 hx'
      have C3 := Lib.hid (specAt_any ss HF.out oa cap i j s x hs hj _ (HC.out.below HB2.out (Nat.le_refl _)))
      have r0 : w2.cell? ⟨w.heap.size + 1 + 1, 0, none⟩ = some (.int .i64 0) := RR2.out.cell (i := 0) (by rfl)
      simp only [Option.isSome_some]
      clear hx hx' hs hj h0
      go_wp2_with fail
      refine C3.out.mono ?_
      rintro e w3 ⟨rfl, hb3⟩
      have HB3 := Lib.hid (HB2.out.trans (hb3.mono HB2.out.size))
      have RR3 := Lib.hid (RR2.out.below hb3 RR2.out.lt)
      have t0 : w3.cell? ⟨w.heap.size + 1 + 1, 0, none⟩ = some (.int .i64 0) := RR3.out.cell (i := 0) (by rfl)
      have t1 : w3.cell? ⟨w.heap.size + 1 + 1, 1, none⟩ = some (.string ⟨#[]⟩) := RR3.out.cell (i := 1) (by rfl)
      have t2 : w3.cell? ⟨w.heap.size + 1 + 1, 2, none⟩ = some (.int .i64 0) := RR3.out.cell (i := 2) (by rfl)
      have f0 : ∀ k, w3.frozen? ⟨w.heap.size + 1 + 1, k, none⟩ = false := fun k => RR3.out.frozen k
      clear hb3
      unfold itV
      go_wp2
      refine bodyPost_ret (v := .tuple #[itV x, .bool true]) (by simp [results, Tryz.results13, go_sem, itV, t0, t1, t2]) rfl ⟨x, true, rfl, .inl ⟨HV.out.1 (by first | trivial | rfl), HX.out, rfl⟩, ?_⟩
      exact ((HB3.out.setCell (by simp; omega) _).setCell (by simp; omega) _).setCell (by simp; omega) _
/-- What the map of items says of a place. -/
theorem look_item {ss : List Sc} (h : Small ss) {a b : Int} (ha : (Lit.int .i64 a).wf = true) (hb : (Lit.int .i64 b).wf = true) :
    Maps.has (itemsD (placed 0 ss)) (plLit a b) = (itemAtP ss a b).isSome ∧ (itemsD (placed 0 ss)).atKey (plLit a b) (itemD zeroIt) = itemD ((itemAtP ss a b).getD zeroIt) := by
  have hh := itemsD_has h ha hb
  cases hx : itemAtP ss a b with
  | some x =>
    have hx' := hx
    unfold itemAtP at hx'
    split at hx'
    case isFalse => cases hx'
    rename_i h0
    obtain ⟨i, rfl⟩ : ∃ i : Nat, a = (i : Int) := ⟨a.toNat, by omega⟩
    obtain ⟨j, rfl⟩ : ∃ j : Nat, b = (j : Int) := ⟨b.toNat, by omega⟩
    simp only [Int.toNat_natCast] at hx'
    obtain ⟨s, hs, hj⟩ := Option.bind_eq_some_iff.1 hx'
    exact ⟨hh.2 ⟨i, j, s, x, rfl, rfl, hs, hj⟩, itemsD_at h hs hj _⟩
  | none =>
    have hno : ¬ ∃ (k j : Nat) (s : Sc) (x : It), a = (k : Int) ∧ b = (j : Int) ∧ ss[k]? = some s ∧ s.items[j]? = some x := by
      rintro ⟨k, j, s, x, rfl, rfl, hs, hj⟩
      rw [itemAtP_nat hs, hj] at hx
      cases hx
    refine ⟨by simpa using fun e => hno (hh.1 e), ?_⟩
    unfold itemsD
    rw [putInto_other plKey itVal (plLit a b) (itemD zeroIt) (placed 0 ss) (.map []) (fun q hq he => hno ?_)]
    · rfl
    · have h1 := h.lt hq
      obtain ⟨e1, e2⟩ := plLit_inj (wf_small h1.1) (wf_small h1.2) ha hb he
      obtain ⟨s, _, h2, h3⟩ := mem_placed.1 hq
      exact ⟨q.1, q.2.1, s, q.2.2, e1.symm, e2.symm, by simpa using h2, h3⟩
theorem itemR_eq {v : Value} {x : It} {ps : List MemPlace} (h : itemR v = some (itemD x, ps)) : v = itV x := by
  unfold itemR at h
  split at h
  · split at h
    · rename_i cs _ a s b he
      have hcs : cs = #[.int .i64 a, .string s, .int .i64 b] := by rw [← he]
      simp only [itemD, Option.some.injEq, Prod.mk.injEq, DataW.agg.injEq, List.cons.injEq, DataW.lit.injEq, Lit.int.injEq, Lit.string.injEq, true_and, and_true] at h
      obtain ⟨⟨h1, h2, h3⟩, _⟩ := h
      have hs : s = x.name := by apply ByteArray.ext; exact Array.toList_inj.1 h2
      rw [hcs, h1, hs, h3]; rfl
    · cases h
  · cases h
theorem zeroItem (w : World) : (zeroValue 37).run Tryz.prog w = .ok (itV zeroIt) w := by kernel_rfl
set_option maxRecDepth 100000 in
set_option maxHeartbeats 1600000 in
theorem implItemAt_any (ss : List Sc) (hF : Fair ss) (oa : Option Addr) (cap : Nat) (a b : Int) (ha : (Lit.int .i64 a).wf = true) (hb' : (Lit.int .i64 b).wf = true) (w : World) (hc : HoldsScopes w oa ss) (hE : TreeErrs w) :
    Calls Tryz.prog 12 #[.agg #[.slice oa ss.length cap], .agg #[.int .i64 a, .int .i64 b]] w (ItemGot ss a b w) := by
  have hb0 : Below w.heap.size w (((w.alloc (.cells #[.slice oa ss.length cap] 33)).alloc (.cells #[.int .i64 a, .int .i64 b] 26)).alloc (.cells #[.int .i64 0, .string ⟨#[]⟩, .int .i64 0] 37)) := (((Below.refl _ _).alloc (Nat.le_refl _) _).alloc (by simp) _).alloc (by simp; omega) _
  have C := Lib.hid (hF.tree oa cap _ (hc.below hb0 (Nat.le_refl _)) (hE.below hb0 hE.size))
  have HB0 := Lib.hid hb0
  have RP : Hid (Row (((w.alloc (.cells #[.slice oa ss.length cap] 33)).alloc (.cells #[.int .i64 a, .int .i64 b] 26)).alloc (.cells #[.int .i64 0, .string ⟨#[]⟩, .int .i64 0] 37)) (w.heap.size + 1) 26 [.int .i64 a, .int .i64 b]) := Lib.hid (by
    have := (Row.new (w.alloc (.cells #[.slice oa ss.length cap] 33)) [.int .i64 a, .int .i64 b] 26).alloc (.cells #[.int .i64 0, .string ⟨#[]⟩, .int .i64 0] 37)
    rw [World.size_alloc] at this
    exact this)
  have RR : Hid (Row (((w.alloc (.cells #[.slice oa ss.length cap] 33)).alloc (.cells #[.int .i64 a, .int .i64 b] 26)).alloc (.cells #[.int .i64 0, .string ⟨#[]⟩, .int .i64 0] 37)) (w.heap.size + 2) 37 [.int .i64 0, .string ⟨#[]⟩, .int .i64 0]) := Lib.hid (by
    have := Row.new ((w.alloc (.cells #[.slice oa ss.length cap] 33)).alloc (.cells #[.int .i64 a, .int .i64 b] 26)) [.int .i64 0, .string ⟨#[]⟩, .int .i64 0] 37
    simp only [World.size_alloc] at this
    exact this)
  have HWF := Lib.hid (And.intro ha hb')
  clear hF hc hE hb0 ha hb'
  go_enter Tryz.func12, Tryz.ntmps12
  go_wp2_with fail
  refine C.out.mono ?_
  rintro e w1 (⟨hv, ⟨tp, p, rfl⟩, hb⟩ | ⟨hv, T, M1, M2, v, ds, rfl, hb, hT⟩)
  · have HB := Lib.hid (HB0.out.trans (hb.mono HB0.out.size))
    have RR1 := Lib.hid (RR.out.below hb RR.out.lt)
    have HN : Hid (¬ (Valid ss ∧ (itemAtP ss a b).isSome = true)) := Lib.hid (fun h => hv h.1)
    have r0 : w1.cell? ⟨w.heap.size + 1 + 1, 0, none⟩ = some (.int .i64 0) := RR1.out.cell (i := 0) (by rfl)
    have r1 : w1.cell? ⟨w.heap.size + 1 + 1, 1, none⟩ = some (.string ⟨#[]⟩) := RR1.out.cell (i := 1) (by rfl)
    have r2 : w1.cell? ⟨w.heap.size + 1 + 1, 2, none⟩ = some (.int .i64 0) := RR1.out.cell (i := 2) (by rfl)
    have f0 : ∀ k, w1.frozen? ⟨w.heap.size + 1 + 1, k, none⟩ = false := fun k => RR1.out.frozen k
    clear hv hb
    go_wp2
    refine bodyPost_ret (v := .tuple #[itV zeroIt, .bool false]) (by simp [results, Tryz.results12, go_sem, itV, zeroIt, r0, r1, r2]) rfl ⟨zeroIt, false, rfl, .inr ⟨HN.out, rfl, rfl⟩, ?_⟩
    exact ((HB.out.setCell (by simp; omega) _).setCell (by simp; omega) _).setCell (by simp; omega) _
  · have HB := Lib.hid (HB0.out.trans (hb.mono HB0.out.size))
    have RR1 := Lib.hid (RR.out.below hb RR.out.lt)
    have RP1 := Lib.hid (RP.out.below hb RP.out.lt)
    obtain ⟨hhas, hat⟩ := look_item hv.small HWF.out.1 HWF.out.2
    obtain ⟨n1, hm⟩ := hT.items
    obtain ⟨v1, ps, hrun, hv1⟩ := (ownsMap_below hm ((Below.refl _ _).drew)).look_ok (t := 80) (e := 37) placeLaw Tryz.underlying80 (zeroItem _) (itemR_mk zeroIt) (pl_key HWF.out.1 HWF.out.2)
    have hbA := ((Below.refl w1.heap.size w1).alloc (Nat.le_refl _) (.cells #[.int .i64 0, .string ⟨#[]⟩, .int .i64 0] 37)).drew
    obtain ⟨v2, ps2, hrun2, hv2⟩ := (ownsMap_below hm hbA).look_ok (t := 80) (e := 37) placeLaw Tryz.underlying80 (zeroItem _) (itemR_mk zeroIt) (pl_key HWF.out.1 HWF.out.2)
    rw [hat] at hv1 hv2
    obtain rfl := itemR_eq hv1
    obtain rfl := itemR_eq hv2
    rw [hhas] at hrun hrun2
    have T1 := hT.tree.box
    have t1 := T1.cell (i := 1) (by rfl)
    have t1' := (((Below.refl _ _).drew).cell (p := ⟨T, 1, none⟩) T1.lt).trans t1
    have t1A := (hbA.cell (p := ⟨T, 1, none⟩) T1.lt).trans t1
    have p0 := RP1.out.cell (i := 0) (by rfl)
    have p1 := RP1.out.cell (i := 1) (by rfl)
    have p0A := (hbA.cell (p := ⟨w.heap.size + 1, 0, none⟩) RP1.out.lt).trans p0
    have p1A := (hbA.cell (p := ⟨w.heap.size + 1, 1, none⟩) RP1.out.lt).trans p1
    have HV := Lib.hid hv
    have hres : Hid ((Valid ss ∧ itemAtP ss a b = some ((itemAtP ss a b).getD zeroIt) ∧ (itemAtP ss a b).isSome = true) ∨ (¬ (Valid ss ∧ (itemAtP ss a b).isSome = true) ∧ (itemAtP ss a b).getD zeroIt = zeroIt ∧ (itemAtP ss a b).isSome = false)) := Lib.hid (by
      cases hx : itemAtP ss a b with
      | none => exact .inr ⟨(fun h => by cases h.2), rfl, rfl⟩
      | some x => exact .inl ⟨hv, rfl, rfl⟩)
    clear hb hhas hat hv1 hv2 hT hm hbA T1 hv
    generalize hq : (itemAtP ss a b).isSome = ok at hrun hrun2
    generalize hq2 : (itemAtP ss a b).getD zeroIt = x at hrun hrun2
    have HQ := Lib.hid (And.intro hq hq2)
    clear hq hq2
    unfold itV at hrun hrun2
    go_wp2
    go_cut [8, 9] (fun s8 s9 wx => s9 = .bool ok ∧ ∃ g, s8 = .pointer (some ⟨g, 0, none⟩) ∧ w1.heap.size ≤ g ∧ Row wx g 37 [.int .i64 x.kind, .string x.name, .int .i64 x.scope] ∧ Below w1.heap.size w1 wx)
    case first =>
      go_region
      all_goals go_wp2
      all_goals go_meet
      all_goals exact ⟨rfl, _, rfl, Nat.le_refl _, Row.new w1 [.int .i64 x.kind, .string x.name, .int .i64 x.scope] 37, ((Below.refl _ _).alloc (Nat.le_refl _) _).drew⟩
    case rest =>
      obtain ⟨rfl, g, rfl, hg, hrow, hbc⟩ := hcut
      have HBC := Lib.hid (HB.out.trans (hbc.mono HB.out.size))
      have RR2 := Lib.hid (RR1.out.below hbc RR1.out.lt)
      have k0 := hrow.cell (i := 0) (by rfl)
      have k1 := hrow.cell (i := 1) (by rfl)
      have k2 := hrow.cell (i := 2) (by rfl)
      have r0 : wc.cell? ⟨w.heap.size + 1 + 1, 0, none⟩ = some (.int .i64 0) := RR2.out.cell (i := 0) (by rfl)
      have r1 : wc.cell? ⟨w.heap.size + 1 + 1, 1, none⟩ = some (.string ⟨#[]⟩) := RR2.out.cell (i := 1) (by rfl)
      have r2 : wc.cell? ⟨w.heap.size + 1 + 1, 2, none⟩ = some (.int .i64 0) := RR2.out.cell (i := 2) (by rfl)
      have f0 : ∀ k, wc.frozen? ⟨w.heap.size + 1 + 1, k, none⟩ = false := fun k => RR2.out.frozen k
      clear hrun hrun2 t1 t1' t1A p0 p1 p0A p1A hrow hbc
      go_wp2
      refine bodyPost_ret (v := .tuple #[itV x, .bool ok]) (by simp [results, Tryz.results12, go_sem, itV, r0, r1, r2]) rfl ⟨x, ok, rfl, by rw [← HQ.out.1, ← HQ.out.2]; exact hres.out, ?_⟩
      exact ((HBC.out.setCell (by simp; omega) _).setCell (by simp; omega) _).setCell (by simp; omega) _
end Go.Proofs.YtjogfagjcpcihaaGreatDoor
namespace Go.Proofs.YtjogfagjcpcihaaGreatDoor
open Go Go.RowKit
theorem TreeErrs.at {w w' : World} (h : TreeErrs w) (hb : Below w.heap.size w w') : TreeErrs w' := h.below hb h.size
theorem belowS {w w1 w2 : World} (h : Below w.heap.size w w1) (k : Below w1.heap.size w1 w2) : Below w.heap.size w w2 := h.trans (k.mono h.size)
end Go.Proofs.YtjogfagjcpcihaaGreatDoor
namespace Go.Proofs.YtjogfagjcpcihaaGreatDoor
open Go Go.RowKit
end Go.Proofs.YtjogfagjcpcihaaGreatDoor
namespace Go.Proofs.YtjogfagjcpcihaaGreatDoor
open Go Go.RowKit
/-- What both answer: the list and the truth, by the same rule. -/
def plVal (ok : Prop) (l : List (Int × Int)) (xs : List (Int × Int)) (b : Bool) : Prop := (¬ ok ∧ xs = [] ∧ b = false) ∨ (ok ∧ xs = l ∧ b = true)
theorem PlGot2.val {ok : Prop} {l : List (Int × Int)} {w w' : World} {e : Ending} (h : PlGot2 ok l w e w') : ∃ oa cap xs b, e = .returned (.tuple #[.slice oa xs.length cap, .bool b]) ∧ plVal ok l xs b ∧ ArgPlaces w' oa xs ∧ Below w.heap.size w w' := by
  rcases h with ⟨h1, g, rfl, hb⟩ | ⟨h1, v, rfl, hr, hb⟩
  · exact ⟨_, 0, [], false, rfl, .inl ⟨h1, rfl, rfl⟩, .inl rfl, hb⟩
  · obtain ⟨oa, cap, rfl, hh⟩ := argPlaces_of_owns hr
    exact ⟨oa, cap, _, true, rfl, .inr ⟨h1, rfl, rfl⟩, hh, hb⟩
theorem PlGot.val {ok : Prop} {l : List (Int × Int)} {w w' : World} {e : Ending} (h : PlGot ok l w e w') : ∃ oa cap xs b, e = .returned (.tuple #[.slice oa xs.length cap, .bool b]) ∧ plVal ok l xs b ∧ ArgPlaces w' oa xs ∧ OwnPl w' w.heap.size oa xs.length ∧ Below w.heap.size w w' := by
  rcases h with ⟨h1, rfl, hb⟩ | ⟨h1, v, rfl, hr, hb⟩
  · exact ⟨none, 0, [], false, rfl, .inl ⟨h1, rfl, rfl⟩, .inl rfl, .inl rfl, hb⟩
  · obtain ⟨oa, cap, rfl, hh⟩ := argPlaces_of_owns hr
    exact ⟨oa, cap, _, true, rfl, .inr ⟨h1, rfl, rfl⟩, hh, ownPl_of_owns hr, hb⟩
theorem plVal.same {ok : Prop} {l : List (Int × Int)} {xs ys : List (Int × Int)} {b c : Bool} (h : plVal ok l xs b) (k : plVal ok l ys c) : xs = ys ∧ b = c := by
  rcases h with ⟨h1, h2, h3⟩ | ⟨h1, h2, h3⟩ <;> rcases k with ⟨k1, k2, k3⟩ | ⟨k1, k2, k3⟩
  · exact ⟨by rw [h2, k2], by rw [h3, k3]⟩
  · exact absurd k1 h1
  · exact absurd h1 k1
  · exact ⟨by rw [h2, k2], by rw [h3, k3]⟩
end Go.Proofs.YtjogfagjcpcihaaGreatDoor
