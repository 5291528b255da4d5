/-
  Chains of scopes, what lies within a scope, the innermost scope around two, modules of scopes, blocks, paths, as plain data. Plain facts. The contract of the iterator from a node outwards (impl's (*node).outward): the scope itself and all around it, whatever the loop's body does, as long as it leaves the cells that were there. The walks of impl's (*tree).node and nodeOf. Conditions: the argument's memory holds the graph; the package-level errors hold errors. The walk of impl's ChainOf: a scope and all around it, in a list of its own. Conditions: the argument's memory holds the graph; the package-level errors hold errors. The walks of the given l2Scope, l2Chain, ChainOf and ScopeDepth. Condition: the argument's memory holds the graph. The walks of the laws' eqIntS, markIntS, heldIntS: lists of numbers compared, marked, and found marked. Condition: the lists' memory is their own. The walk of the laws' markText: a short text comes back, and only new memory is written. Plain facts. The walks of the laws' markItemS, markScopeS, markGraph over a graph of one's own: a number from 0 on comes back, and no block turns but those of the graph. Plain facts. The walks of the laws' toPlace, eqPlace, eqPlaceS; lists of places in memory. Condition: the list has at most 2^20 places. The walks of the laws' eqPlaceS, markPlaceS, heldPlaceS: lists of places compared, marked, and found marked. Condition: the lists' memory is their own. The walks of the given l1Has, l1At and ItemAt, and of impl's ItemAt. Conditions: the argument's memory holds the graph; the package-level errors hold errors. What the walks of the exact laws over graphs share: the copies of a graph, their comparison, errors carried along. Plain facts. What the walks of the exact laws with a list of numbers and a truth share. Plain facts. What the walks of the exact laws with a list of places and a truth share. Plain facts.
-/
import Derived.Test.YtjogfagjcpcihaaDoorBase
import Derived.Test.YtjogfagjcpcihaaDoorTreeOf
import Derived.Test.YtjogfagjcpcihaaDoorWTreeOf
import Derived.Test.YtjogfagjcpcihaaDoorWImplValid
import Derived.Maps.AppendAt
import Derived.RangeFuncBox
import Derived.Test.YtjogfagjcpcihaaDoorWSpecValid
import Derived.Laws.BytesArg
import Derived.Lib.ItoaLen
import Derived.Test.YtjogfagjcpcihaaDoorWEq
import Derived.Test.YtjogfagjcpcihaaDoorPlaced
import Derived.Test.YtjogfagjcpcihaaDoorProg
import Derived.Lib.Hide
import Derived.Outline
import Derived.Deep.DeepCutAuto
import Derived.Deep.QuietTactic
import Derived.BigQuiet
import Derived.Lib.QuietBelow
import Derived.IntWalk
import Derived.Deep.RegionWith
namespace Go.Proofs.YtjogfagjcpcihaaDoor
open Go Go.RowKit
/-- Each scope has an earlier one as its parent, the first one none. -/
def Climbs (ss : List Sc) : Prop := ∀ i s, ss[i]? = some s → scopeB i s = true
theorem Valid.climbs {ss : List Sc} (h : Valid ss) : Climbs ss := h.scopes
/-- The parent of a scope, if it has one. -/
def parP (ss : List Sc) (s : Nat) : Option Nat := match ss[s]? with
  | some c => if c.parent < 0 then none else some c.parent.toNat
  | none => none
def chainN (ss : List Sc) : Nat → Nat → List Nat
  | 0, _ => []
  | n + 1, s => s :: (match parP ss s with | some p => chainN ss n p | none => [])
/-- A scope and all around it, from the inside to the outside. -/
def chainP (ss : List Sc) (s : Nat) : List Nat := chainN ss (s + 1) s
theorem Climbs.par {ss : List Sc} (h : Climbs ss) {s p : Nat} (hp : parP ss s = some p) : p < s := by
  unfold parP at hp
  split at hp
  · rename_i c hc
    split at hp
    · cases hp
    · cases hp
      rcases scope_parent (h s c hc) with ⟨_, h1⟩ | ⟨q, h1, hlt⟩ <;> omega
  · cases hp
theorem Climbs.par_zero {ss : List Sc} (h : Climbs ss) : parP ss 0 = none := by
  cases e : parP ss 0 with
  | none => rfl
  | some p => have := h.par e; omega
theorem par_of {ss : List Sc} {s p : Nat} {c : Sc} (hc : ss[s]? = some c) (hp : c.parent = (p : Int)) : parP ss s = some p := by
  unfold parP; simp only [hc]; rw [if_neg (by omega), hp]; simp
theorem par_none {ss : List Sc} {s : Nat} {c : Sc} (hc : ss[s]? = some c) (hp : c.parent < 0) : parP ss s = none := by
  unfold parP; simp only [hc]; rw [if_pos hp]
theorem Climbs.cases {ss : List Sc} (h : Climbs ss) {s : Nat} {c : Sc} (hc : ss[s]? = some c) : (s = 0 ∧ c.parent = -1 ∧ parP ss s = none) ∨ (∃ p : Nat, c.parent = (p : Int) ∧ p < s ∧ parP ss s = some p) := by
  rcases scope_parent (h s c hc) with ⟨h0, h1⟩ | ⟨p, h1, hlt⟩
  · exact .inl ⟨h0, h1, par_none hc (by omega)⟩
  · exact .inr ⟨p, h1, hlt, par_of hc h1⟩
theorem chainN_more {ss : List Sc} (h : Climbs ss) : ∀ (s n m : Nat), s < n → s < m → chainN ss n s = chainN ss m s := by
  intro s
  induction s using Nat.strongRecOn with
  | _ s ih =>
    intro n m hn hm
    obtain ⟨n, rfl⟩ : ∃ k, n = k + 1 := ⟨n - 1, by omega⟩
    obtain ⟨m, rfl⟩ : ∃ k, m = k + 1 := ⟨m - 1, by omega⟩
    unfold chainN
    cases e : parP ss s with
    | none => rfl
    | some p =>
      have := h.par e
      simp only
      rw [ih p this n m (by omega) (by omega)]
theorem chain_none {ss : List Sc} {s : Nat} (e : parP ss s = none) : chainP ss s = [s] := by
  unfold chainP chainN; rw [e]
theorem chain_some {ss : List Sc} (h : Climbs ss) {s p : Nat} (e : parP ss s = some p) : chainP ss s = s :: chainP ss p := by
  have hlt := h.par e
  unfold chainP
  rw [show chainN ss (s + 1) s = s :: chainN ss s p from by conv => lhs; unfold chainN; rw [e]]
  rw [chainN_more h p s (p + 1) hlt (by omega)]
theorem chain_head (ss : List Sc) (s : Nat) : ∃ t, chainP ss s = s :: t := by
  unfold chainP chainN; exact ⟨_, rfl⟩
theorem chain_self (ss : List Sc) (s : Nat) : s ∈ chainP ss s := by obtain ⟨t, h⟩ := chain_head ss s; rw [h]; exact List.mem_cons_self
theorem chain_le {ss : List Sc} (h : Climbs ss) : ∀ (s m : Nat), m ∈ chainP ss s → m ≤ s := by
  intro s
  induction s using Nat.strongRecOn with
  | _ s ih =>
    intro m hm
    cases e : parP ss s with
    | none => rw [chain_none e] at hm; simp at hm; omega
    | some p =>
      have := h.par e
      rw [chain_some h e] at hm
      rcases List.mem_cons.1 hm with rfl | hm
      · exact Nat.le_refl _
      · have := ih p this m hm; omega
theorem chain_nodup {ss : List Sc} (h : Climbs ss) : ∀ s : Nat, (chainP ss s).Nodup := by
  intro s
  induction s using Nat.strongRecOn with
  | _ s ih =>
    cases e : parP ss s with
    | none => rw [chain_none e]; simp
    | some p =>
      have := h.par e
      rw [chain_some h e, List.nodup_cons]
      exact ⟨fun hm => by have := chain_le h p s hm; omega, ih p this⟩
theorem chain_length {ss : List Sc} (h : Climbs ss) : ∀ s : Nat, (chainP ss s).length ≤ s + 1 := by
  intro s
  induction s using Nat.strongRecOn with
  | _ s ih =>
    cases e : parP ss s with
    | none => rw [chain_none e]; simp
    | some p =>
      have := h.par e
      rw [chain_some h e]
      have := ih p this
      simp only [List.length_cons]; omega
/-- What lies around one that lies around another lies around that. -/
theorem chain_trans {ss : List Sc} (h : Climbs ss) {m : Nat} : ∀ s k : Nat, m ∈ chainP ss s → k ∈ chainP ss m → k ∈ chainP ss s := by
  intro s
  induction s using Nat.strongRecOn with
  | _ s ih =>
    intro k hm hk
    cases e : parP ss s with
    | none => rw [chain_none e] at hm; simp at hm; subst hm; exact hk
    | some p =>
      have := h.par e
      rw [chain_some h e] at hm ⊢
      rcases List.mem_cons.1 hm with rfl | hm
      · rw [chain_some h e] at hk; exact hk
      · exact List.mem_cons_of_mem _ (ih p this k hm hk)
theorem chain_sub {ss : List Sc} (h : Climbs ss) {s m : Nat} : s ∈ chainP ss m ↔ ∀ k, k ∈ chainP ss s → k ∈ chainP ss m :=
  ⟨fun hs k hk => chain_trans h m k hs hk, fun hk => hk s (chain_self ss s)⟩
theorem chain_zero {ss : List Sc} (h : Climbs ss) : ∀ s : Nat, s < ss.length → 0 ∈ chainP ss s := by
  intro s
  induction s using Nat.strongRecOn with
  | _ s ih =>
    intro hs
    obtain ⟨c, hc⟩ : ∃ c, ss[s]? = some c := ⟨_, List.getElem?_eq_getElem hs⟩
    rcases h.cases hc with ⟨rfl, _, _⟩ | ⟨p, _, hlt, e⟩
    · exact chain_self ss 0
    · rw [chain_some h e]
      exact List.mem_cons_of_mem _ (ih p hlt (by omega))
theorem chain_inj {ss : List Sc} (h : Climbs ss) {a b : Nat} (hab : ∀ k, k ∈ chainP ss a ↔ k ∈ chainP ss b) : a = b := by
  have h1 := chain_le h b a ((hab a).1 (chain_self ss a))
  have h2 := chain_le h a b ((hab b).2 (chain_self ss b))
  omega
/-- Two that lie around the same one: one lies around the other. -/
theorem chain_line {ss : List Sc} (h : Climbs ss) {a b : Nat} : ∀ s : Nat, a ∈ chainP ss s → b ∈ chainP ss s → a ∈ chainP ss b ∨ b ∈ chainP ss a := by
  intro s
  induction s using Nat.strongRecOn with
  | _ s ih =>
    intro ha hb
    cases e : parP ss s with
    | none => rw [chain_none e] at ha hb; simp at ha hb; subst ha hb; exact .inl (chain_self ss _)
    | some p =>
      have := h.par e
      have hc := chain_some h e
      rw [hc] at ha hb
      rcases List.mem_cons.1 ha with ha1 | ha1
      · rcases List.mem_cons.1 hb with hb1 | hb1
        · rw [ha1, hb1]; exact .inl (chain_self ss _)
        · right; rw [ha1, hc]; exact List.mem_cons_of_mem _ hb1
      · rcases List.mem_cons.1 hb with hb1 | hb1
        · left; rw [hb1, hc]; exact List.mem_cons_of_mem _ ha1
        · exact ih p this ha1 hb1
/-- The first of one's chain that lies around another, too. -/
def commonP (ss : List Sc) (a b : Nat) : Nat := ((chainP ss a).find? fun m => decide (m ∈ chainP ss b)).getD 0
theorem common_mem {ss : List Sc} (h : Climbs ss) {a b : Nat} (ha : a < ss.length) (hb : b < ss.length) : commonP ss a b ∈ chainP ss a ∧ commonP ss a b ∈ chainP ss b := by
  unfold commonP
  cases e : (chainP ss a).find? fun m => decide (m ∈ chainP ss b) with
  | none =>
    rw [List.find?_eq_none] at e
    exact absurd (by simpa using chain_zero h b hb) (e 0 (chain_zero h a ha))
  | some m =>
    have h1 := List.mem_of_find?_eq_some e
    have h2 := List.find?_some e
    exact ⟨h1, by simpa using h2⟩
theorem find_first {ss : List Sc} (h : Climbs ss) {q : Nat → Bool} {m : Nat} : ∀ s : Nat, (chainP ss s).find? q = some m → ∀ k, k ∈ chainP ss s → q k = true → k ∈ chainP ss m := by
  intro s
  induction s using Nat.strongRecOn with
  | _ s ih =>
    intro hf k hk hq
    obtain ⟨t, ht⟩ := chain_head ss s
    cases hs : q s with
    | true =>
      rw [ht, List.find?_cons, hs] at hf
      cases hf
      exact hk
    | false =>
      cases e : parP ss s with
      | none =>
        rw [chain_none e] at hk; simp at hk; subst hk; rw [hs] at hq; cases hq
      | some p =>
        have := h.par e
        rw [chain_some h e] at hk hf
        rw [List.find?_cons, hs] at hf
        rcases List.mem_cons.1 hk with rfl | hk
        · rw [hs] at hq; cases hq
        · exact ih p this hf k hk hq
/-- Scopes around both are just those around the common one. -/
theorem common_chain {ss : List Sc} (h : Climbs ss) {a b : Nat} (ha : a < ss.length) (hb : b < ss.length) (k : Nat) : k ∈ chainP ss (commonP ss a b) ↔ k ∈ chainP ss a ∧ k ∈ chainP ss b := by
  obtain ⟨h1, h2⟩ := common_mem h ha hb
  constructor
  · exact fun hk => ⟨chain_trans h a k h1 hk, chain_trans h b k h2 hk⟩
  · rintro ⟨k1, k2⟩
    cases e : (chainP ss a).find? fun m => decide (m ∈ chainP ss b) with
    | none =>
      rw [List.find?_eq_none] at e
      exact absurd (by simpa using chain_zero h b hb) (e 0 (chain_zero h a ha))
    | some m =>
      have hm : commonP ss a b = m := by unfold commonP; rw [e]; rfl
      rw [hm]
      exact find_first h a e k k1 (by simpa using k2)
/-- A scope and all within it. -/
def withinP (ss : List Sc) (s : Nat) : List Nat := (List.range ss.length).filter fun k => decide (s ∈ chainP ss k)
/-- The place of the module of a scope. -/
def moduleP (ss : List Sc) (s : Int) : Option (Nat × Nat × It) := (placed 0 ss).find? fun q => q.2.2.kind == 1 && q.2.2.scope == s
/-- The blocks of a scope. -/
def blocksP (ss : List Sc) (s : Nat) : List Nat := (List.range ss.length).filter fun k => decide (parP ss k = some s) && (moduleP ss (k : Int)).isNone
/-- The names of the modules of a chain, the last one first. -/
def pathL (ss : List Sc) : List Nat → List UInt8
  | [] => []
  | s :: r => pathL ss r ++ (match moduleP ss (s : Int) with | some q => q.2.2.name.data.toList | none => [])
def pathP (ss : List Sc) (s : Nat) : List UInt8 := pathL ss (chainP ss s)
end Go.Proofs.YtjogfagjcpcihaaDoor
namespace Go.Proofs.YtjogfagjcpcihaaDoor
open Go Go.RowKit Go.Maps
attribute [local go_sem] Oper.semAt_some
/-- A node with its number. -/
abbrev NdOf (ds : List Nd) := { q : Nat × Nd // ds[q.1]? = some q.2 }
def NdOf.num {ds : List Nd} (x : NdOf ds) : Nat := x.1.1
def ndArgs (d : Nd) : Array Value := #[.pointer (some ⟨d.blk, 0, none⟩)]
/-- How far out a pointer may still lead. -/
def rank (ds : List Nd) : Value → Nat
  | .pointer (some a) => (ds.map Nd.blk).idxOf a.block + 1
  | _ => 0
theorem idx_of : ∀ {l : List Nat} {i x : Nat}, l.Nodup → l[i]? = some x → l.idxOf x = i
  | y :: r, 0, x, _, h => by simp at h; subst h; simp
  | y :: r, i + 1, x, hn, h => by
    rw [List.nodup_cons] at hn
    have h' : r[i]? = some x := by simpa using h
    have hne : y ≠ x := by rintro rfl; exact hn.1 (List.mem_of_getElem? h')
    have hb : (y == x) = false := by simpa using hne
    rw [List.idxOf_cons, hb, cond_false, idx_of hn.2 h']
theorem rank_of {ds : List Nd} (h : (ds.map Nd.blk).Nodup) {i : Nat} {d : Nd} (hd : ds[i]? = some d) : rank ds (.pointer (some ⟨d.blk, 0, none⟩)) = i + 1 := by
  show (ds.map Nd.blk).idxOf d.blk + 1 = i + 1
  rw [idx_of h (i := i) (by rw [List.getElem?_map, hd]; rfl)]
theorem par_ptr {ds : List Nd} {ss : List Sc} (hP : Pars ds ss) (hC : Climbs ss) (hl : ds.length = ss.length) {i : Nat} {d : Nd} (hd : ds[i]? = some d) :
    (parP ss i = none ∧ d.par = none) ∨ ∃ p e, parP ss i = some p ∧ p < i ∧ ds[p]? = some e ∧ d.par = some ⟨e.blk, 0, none⟩ := by
  have hi := (List.getElem?_eq_some_iff.1 hd).1
  obtain ⟨c, hc⟩ : ∃ c, ss[i]? = some c := ⟨_, List.getElem?_eq_getElem (by omega)⟩
  have hp := hP i d c hd hc
  unfold newPar at hp
  rcases hC.cases hc with ⟨_, h1, h2⟩ | ⟨p, h1, hlt, h2⟩
  · rw [if_pos h1] at hp; exact .inl ⟨h2, hp⟩
  · obtain ⟨e, he⟩ : ∃ e, ds[p]? = some e := ⟨_, List.getElem?_eq_getElem (by omega)⟩
    rw [if_neg (by omega), h1, Int.toNat_natCast, he] at hp
    exact .inr ⟨p, e, h2, hlt, he, hp⟩
theorem chain_bound {ss : List Sc} (h : Climbs ss) {s : Nat} (hs : s < ss.length) : (chainP ss s).length ≤ ss.length := by have := chain_length h s; omega
set_option maxRecDepth 100000 in
set_option maxHeartbeats 4000000 in
theorem outward1_in (n : Nat) (hn : 1 ≤ n) (l Bn B T M1 M2 : Nat) (v : Value) (ds : List Nd) (ss : List Sc) (w0 : World) (hT : Tree w0 B T M1 M2 v ds) (hP : Pars ds ss) (hC : Climbs ss) (hl : ds.length = ss.length) (s : Nat) (d : Nd) (hd : ds[s]? = some d)
    (J Jx : List (NdOf ds) → World → Prop) (W : World)
    (hY : ∀ pre x W1, J pre W1 → CellsKept w0.heap.size w0 W1 → pre.length < (chainP ss s).length → YieldAt Fence.wide (n - 1) Tryd.prog l (ndArgs x.1.2) W1 fun e W' =>
      (e = .returned (.bool true) ∧ J (pre ++ [x]) W' ∧ CellsKept w0.heap.size W1 W') ∨ (e = .returned (.bool false) ∧ Jx (pre ++ [x]) W'))
    (hk : CellsKept w0.heap.size w0 W) (hBn : W.cell? ⟨Bn, 0, none⟩ = some (.pointer (some ⟨d.blk, 0, none⟩))) (h0 : J [] W) :
    CallsIn Fence.wide n Tryd.prog 96 #[.func (.yield l) #[] #[], .pointer (some ⟨Bn, 0, none⟩)] W fun e W' => (∃ v, e = .returned v) ∧
      ((∃ ys : List (NdOf ds), ys.map NdOf.num = chainP ss s ∧ J ys W') ∨ (∃ pre : List (NdOf ds), pre.map NdOf.num <+: chainP ss s ∧ Jx pre W')) := by
  have HT := Lib.hid hT
  have HP := Lib.hid hP
  have HC := Lib.hid hC
  have HL := Lib.hid hl
  have HD := Lib.hid hd
  clear hT hP hC hl hd
  refine callsIn_of_wp Tryd.func96 rfl trivial ?_ rfl
  simp only [Tryd.ntmps96, List.size_toArray, List.length_cons, List.length_nil, Nat.reduceAdd, Nat.reduceSub, Array.replicate_succ, Array.replicate_zero, List.push_toArray, List.append_toArray, List.nil_append, List.cons_append]
  gi_wp2
  gi_loopw [3] (fun p wr => ∃ (pre : List (NdOf ds)), J pre wr ∧ CellsKept w0.heap.size w0 wr ∧
      ((p = .pointer none ∧ Hid (pre.map NdOf.num = chainP ss s)) ∨ ∃ (i : Nat) (c : Nd), p = .pointer (some ⟨c.blk, 0, none⟩) ∧ Hid (ds[i]? = some c) ∧ Hid (pre.map NdOf.num ++ chainP ss i = chainP ss s))) (fun p _ => rank ds p)
  case atStart => exact ⟨[], h0, hk, .inr ⟨s, d, rfl, HD, Lib.hid rfl⟩⟩
  case round =>
    obtain ⟨pre, hJ, hkr, ⟨rfl, hpre⟩ | ⟨i, c, rfl, hc, hpre⟩⟩ := hrel
    · gi_wp2
      go_end0
      exact ⟨⟨_, rfl⟩, .inl ⟨pre, hpre.out, hJ⟩⟩
    · have hlen : pre.length < (chainP ss s).length := by
        have := congrArg List.length hpre.out
        obtain ⟨t, ht⟩ := chain_head ss i
        rw [ht] at this
        simp at this
        omega
      obtain ⟨fn, tmps, assign, body, hy, hR⟩ := hY pre ⟨(i, c), hc.out⟩ wr hJ hkr hlen
      dsimp only [ndArgs] at hy
      have HR := Lib.hid (hR.mono (R' := fun e W' => ∃ q, e = .returned (.bool q) ∧ Hid ((q = true ∧ J (pre ++ [⟨(i, c), hc.out⟩]) W' ∧ CellsKept w0.heap.size wr W') ∨ (q = false ∧ Jx (pre ++ [⟨(i, c), hc.out⟩]) W'))) (by
        rintro e W' (⟨he, h1, h2⟩ | ⟨he, h1⟩)
        · exact ⟨true, he, Lib.hid (.inl ⟨rfl, h1, h2⟩)⟩
        · exact ⟨false, he, Lib.hid (.inr ⟨rfl, h1⟩)⟩))
      have HKR := Lib.hid hkr
      have HRK := Lib.hid (rank_of HT.out.inj hc.out)
      clear hR hlen hkr
      gi_wp2
      refine HR.out.mono ?_
      rintro e W3 ⟨q, rfl, hq⟩
      rcases hq.out with ⟨rfl, hJ3, hk3⟩ | ⟨rfl, hx3⟩
      · have HK3 := Lib.hid (HKR.out.trans hk3)
        have hpc := (((HT.out.kept HK3.out (Nat.le_refl _)).node i c hc.out).2.cell (i := 1) (v := .pointer c.par) (by rfl))
        rcases par_ptr HP.out HC.out HL.out hc.out with ⟨h1, h2⟩ | ⟨p, e', h1, hlt, h2, h3⟩
        · have HE : Hid ((pre ++ [(⟨(i, c), hc.out⟩ : NdOf ds)]).map NdOf.num = chainP ss s) := Lib.hid (by rw [← hpre.out, chain_none h1, List.map_append]; rfl)
          rw [h2] at hpc
          clear hk3 h1 h2
          gi_wp2
          exact ⟨⟨_, hJ3, HK3.out, .inl ⟨rfl, HE⟩⟩, by rw [HRK.out]; simp [rank]⟩
        · have HE : Hid ((pre ++ [(⟨(i, c), hc.out⟩ : NdOf ds)]).map NdOf.num ++ chainP ss p = chainP ss s) := Lib.hid (by rw [← hpre.out, chain_some HC.out h1, List.map_append, List.append_assoc]; rfl)
          have HP2 := Lib.hid h2
          have HR2 := Lib.hid (rank_of HT.out.inj h2)
          rw [h3] at hpc
          clear hk3 h1 h2 h3
          gi_wp2
          exact ⟨⟨_, hJ3, HK3.out, .inr ⟨p, e', rfl, HP2, HE⟩⟩, by rw [HRK.out, HR2.out]; omega⟩
      · have HE : Hid ((pre ++ [(⟨(i, c), hc.out⟩ : NdOf ds)]).map NdOf.num <+: chainP ss s) := Lib.hid (by
          obtain ⟨t, ht⟩ := chain_head ss i
          rw [← hpre.out, ht, List.map_append]
          exact ⟨t, by simp [NdOf.num]⟩)
        gi_wp2
        refine bodyPost_ret (results_none rfl _ _ _) rfl ?_
        exact ⟨⟨_, rfl⟩, .inr ⟨_, HE.out, hx3⟩⟩
theorem outward_any (p : Option Addr) (w : World) :
    Calls Tryd.prog 60 #[.pointer p] w fun e w' => e = .returned (.func (.func 96) #[] #[.pointer (some ⟨w.heap.size, 0, none⟩)]) ∧ w' = w.alloc (.cells #[.pointer p] 78) := by
  go_enter Tryd.func60, Tryd.ntmps60
  go_wp2
  go_ret
  exact ⟨rfl, rfl⟩
theorem outward_stops (n : Nat) (hn : 1 ≤ n) (Bn B T M1 M2 : Nat) (v : Value) (ds : List Nd) (ss : List Sc) (w0 w : World) (hT : Tree w0 B T M1 M2 v ds) (hP : Pars ds ss) (hC : Climbs ss) (hl : ds.length = ss.length) (s : Nat) (d : Nd) (hd : ds[s]? = some d)
    (hk : CellsKept w0.heap.size w0 w) (hBn : w.cell? ⟨Bn, 0, none⟩ = some (.pointer (some ⟨d.blk, 0, none⟩))) :
    SeqStopsK Fence.wide n Tryd.prog 96 #[.pointer (some ⟨Bn, 0, none⟩)] (fun x : NdOf ds => ndArgs x.1.2) (CellsKept w0.heap.size) (fun ys => ys.map NdOf.num = chainP ss s) (fun pre => pre.map NdOf.num <+: chainP ss s) (chainP ss s).length w :=
  fun l J Jx W hW _ _ hY h0 =>
    outward1_in n hn l Bn B T M1 M2 v ds ss w0 hT hP hC hl s d hd J Jx W (fun pre x W1 h _ hlen => hY pre x W1 h hlen) (hk.trans ((CellsKept.of_below hW).mono hk.size)) ((hW.cell (p := ⟨Bn, 0, none⟩) (World.block_lt_of_cell? _ _ hBn)).trans hBn) h0
end Go.Proofs.YtjogfagjcpcihaaDoor
namespace Go.Proofs.YtjogfagjcpcihaaDoor
open Go Go.RowKit Go.Maps
/-- The package-level errors of scopes hold errors. -/
structure NodeErrs (w : World) : Prop where
  trees : TreeErrs w
  scope : IsErr w 2
theorem NodeErrs.at {w w' : World} (h : NodeErrs w) (hb : Below w.heap.size w w') : NodeErrs w' where
  trees := h.trees.below hb h.trees.size
  scope := h.scope.below hb (Nat.lt_of_lt_of_le (by decide) h.trees.size)
theorem TreeIs.below {w w' : World} {B T M1 M2 : Nat} {v : Value} {ds : List Nd} {ss : List Sc} (h : TreeIs w B T M1 M2 v ds ss) (hb : Below w.heap.size w w') : TreeIs w' B T M1 M2 v ds ss where
  tree := h.tree.below hb (Nat.le_refl _)
  hold := h.hold.below hb (Nat.le_refl _)
  pars := h.pars
  items := by obtain ⟨n, h1⟩ := h.items; exact ⟨n, ownsMap_below h1 hb⟩
  mods := by obtain ⟨n, h1⟩ := h.mods; exact ⟨n, ownsMap_below h1 hb⟩
  low1 := h.low1
  low2 := h.low2
theorem TreeIs.lower {w : World} {B B' T M1 M2 : Nat} {v : Value} {ds : List Nd} {ss : List Sc} (h : TreeIs w B T M1 M2 v ds ss) (hB : B' ≤ B) : TreeIs w B' T M1 M2 v ds ss where
  tree := h.tree.lower hB
  hold := h.hold
  pars := h.pars
  items := h.items
  mods := h.mods
  low1 := Nat.le_trans hB h.low1
  low2 := Nat.le_trans hB h.low2
/-- What (*tree).node answers. -/
def NodeAt (ds : List Nd) (n : Int) (w : World) (e : Ending) (w' : World) : Prop :=
  (∃ (i : Nat) (d : Nd), n = (i : Int) ∧ ds[i]? = some d ∧ e = .returned (.tuple #[.pointer (some ⟨d.blk, 0, none⟩), .nilIface]) ∧ Below w.heap.size w w') ∨
  (¬ (0 ≤ n ∧ n < (ds.length : Int)) ∧ (∃ tp p, e = .returned (.tuple #[.pointer none, .iface tp p])) ∧ Below w.heap.size w w')
set_option maxRecDepth 100000 in
theorem node_any {w : World} {B T M1 M2 : Nat} {v : Value} {ds : List Nd} (h : Tree w B T M1 M2 v ds) (hne : ds ≠ []) (hE : IsErr w 2) (n : Int) :
    Calls Tryd.prog 94 #[.pointer (some ⟨T, 0, none⟩), .int .i64 n] w (NodeAt ds n w) := by
  obtain ⟨g, cap, rfl, hB, hg, hs⟩ := h.slot hne
  have b0 : w.cell? ⟨T, 0, none⟩ = some (.slice (some ⟨g, 0, none⟩) ds.length cap) := h.box.cell (by simp)
  obtain ⟨tp, p, he⟩ := hE
  by_cases h0 : n < 0
  · have k0 : decide (n < 0) = true := by simpa using h0
    have HN : Hid (¬ (0 ≤ n ∧ n < (ds.length : Int))) := Lib.hid (by omega)
    clear h hs
    go_enter Tryd.func94, Tryd.ntmps94
    go_wp2
    go_region
    all_goals go_wp2
    all_goals go_ret2
    all_goals exact .inr ⟨HN.out, ⟨tp, p, rfl⟩, (Below.refl _ _).drew⟩
  · obtain ⟨i, rfl⟩ : ∃ i : Nat, n = (i : Int) := ⟨n.toNat, by omega⟩
    have k0 : decide (((i : Nat) : Int) < 0) = false := by simp
    by_cases h1 : i < ds.length
    · obtain ⟨d, hd⟩ : ∃ d, ds[i]? = some d := ⟨_, List.getElem?_eq_getElem h1⟩
      have s1 := hs i d hd
      have k1 : decide (((ds.length : Nat) : Int) ≤ ((i : Nat) : Int)) = false := by simp; omega
      have HD := Lib.hid hd
      unfold Nd.ptr at s1
      clear h hs hd he
      go_enter Tryd.func94, Tryd.ntmps94
      go_wp2
      go_ret2
      exact .inl ⟨i, d, rfl, HD.out, rfl, Below.refl _ _⟩
    · have k1 : decide (((ds.length : Nat) : Int) ≤ ((i : Nat) : Int)) = true := by simp; omega
      have HN : Hid (¬ (0 ≤ (i : Int) ∧ (i : Int) < (ds.length : Int))) := Lib.hid (by omega)
      clear h hs
      go_enter Tryd.func94, Tryd.ntmps94
      go_wp2
      go_region
      all_goals go_wp2
      all_goals go_ret2
      all_goals exact .inr ⟨HN.out, ⟨tp, p, rfl⟩, (Below.refl _ _).drew⟩
/-- A valid graph and one of its scopes. -/
def HasScope (ss : List Sc) (n : Int) : Prop := Valid ss ∧ 0 ≤ n ∧ n < (ss.length : Int)
/-- What nodeOf answers. -/
def NodeGot (ss : List Sc) (n : Int) (w : World) (e : Ending) (w' : World) : Prop :=
  (¬ HasScope ss n ∧ (∃ tp p, e = .returned (.tuple #[.pointer none, .pointer none, .iface tp p])) ∧ Below w.heap.size w w') ∨
  (Valid ss ∧ ∃ (i : Nat) (d : Nd) (T M1 M2 : Nat) (v : Value) (ds : List Nd), n = (i : Int) ∧ i < ss.length ∧ ds[i]? = some d ∧ e = .returned (.tuple #[.pointer (some ⟨T, 0, none⟩), .pointer (some ⟨d.blk, 0, none⟩), .nilIface]) ∧ Below w.heap.size w w' ∧ TreeIs w' w.heap.size T M1 M2 v ds ss)
theorem TreeIs.ne {w : World} {B T M1 M2 : Nat} {v : Value} {ds : List Nd} {ss : List Sc} (h : TreeIs w B T M1 M2 v ds ss) (hv : Valid ss) : ds ≠ [] := fun e => by
  have h1 := h.hold.len
  have h2 := hv.count
  rw [e, List.length_nil] at h1
  omega
set_option maxRecDepth 100000 in
theorem nodeOf_any (ss : List Sc) (hF : Fair ss) (oa : Option Addr) (cap : Nat) (n : Int) (w : World) (hc : HoldsScopes w oa ss) (hE : NodeErrs w) :
    Calls Tryd.prog 55 #[.agg #[.slice oa ss.length cap], .int .i64 n] w (NodeGot ss n w) := by
  have hb0 := (Below.refl w.heap.size w).alloc (Nat.le_refl _) (.cells #[.slice oa ss.length cap] 25)
  have C := Lib.hid (hF.tree oa cap _ (hc.below hb0 (Nat.le_refl _)) (hE.at hb0).trees)
  have HB0 := Lib.hid hb0
  have HE := Lib.hid hE
  clear hF hc hE hb0
  go_enter Tryd.func55, Tryd.ntmps55
  go_wp2_with fail
  refine C.out.mono ?_
  rintro e w1 (⟨hv, ⟨tp, p, rfl⟩, hb⟩ | ⟨hv, T, M1, M2, v, ds, rfl, hb, hT⟩)
  · have HV : Hid (¬ HasScope ss n) := Lib.hid (fun h => hv h.1)
    have HB := Lib.hid (HB0.out.trans (hb.mono HB0.out.size))
    clear hv hb
    go_wp2
    go_ret3
    exact .inl ⟨HV.out, ⟨tp, p, rfl⟩, HB.out⟩
  · have HV := Lib.hid hv
    have HB := Lib.hid (HB0.out.trans (hb.mono HB0.out.size))
    have HT := Lib.hid hT
    have C2 := Lib.hid (node_any hT.tree (hT.ne hv) (HE.out.at HB.out).scope n)
    clear hv hb hT
    go_wp2_with fail
    refine C2.out.mono ?_
    rintro e w2 (⟨i, d, rfl, hd, rfl, hb2⟩ | ⟨hn, ⟨tp, p, rfl⟩, hb2⟩)
    · have HB2 := Lib.hid (HB.out.trans (hb2.mono HB.out.size))
      have HT2 := Lib.hid ((HT.out.below hb2).lower (show w.heap.size ≤ _ from by simp))
      have HD := Lib.hid hd
      have HI : Hid (i < ss.length) := Lib.hid (by have := (List.getElem?_eq_some_iff.1 hd).1; have := HT.out.hold.len; omega)
      clear hb2 hd
      go_wp2
      go_ret3
      exact .inr ⟨HV.out, i, d, T, M1, M2, v, ds, rfl, HI.out, HD.out, rfl, HB2.out, HT2.out⟩
    · have HB2 := Lib.hid (HB.out.trans (hb2.mono HB.out.size))
      have HN : Hid (¬ HasScope ss n) := Lib.hid (fun h => hn ⟨h.2.1, by rw [HT.out.hold.len]; exact h.2.2⟩)
      clear hb2 hn
      go_wp2
      go_ret3
      exact .inl ⟨HN.out, ⟨tp, p, rfl⟩, HB2.out⟩
end Go.Proofs.YtjogfagjcpcihaaDoor
namespace Go.Proofs.YtjogfagjcpcihaaDoor
open Go Go.RowKit Go.Maps
attribute [local go_sem] Oper.semAt_some
theorem infoInt : (Tryd.prog.info? 3).map (fun i => (i.zero, i.size, i.bytes)) = some (some (.int .i64 0), 1, 8) := by kernel_rfl
/-- One number appended, as the operation runs it. -/
theorem append_int {W : World} {base k : Nat} {v : Value} {xs : List Value} (hrow : W.ownsRow base 3 1 v k xs) (x : Int) (hk : k < 1000000) (hbase : base ≤ W.heap.size) (ty : TypeId) :
    ∃ v' w', (Builtin.append_ #[28, 28] ty #[v, .slice (some ⟨W.heap.size, 0, none⟩) 1 1]).run Tryd.prog (W.alloc (.cells #[.int .i64 x] 3)).drew = .ok v' w' ∧ w'.ownsRow base 3 1 v' (k + 1) (xs ++ [.int .i64 x]) ∧ (W.alloc (.cells #[.int .i64 x] 3)).grownBy w' v.ownBlock := by
  obtain ⟨i0, hi, hz0, hz1, hz2⟩ := info_parts infoInt
  obtain ⟨v', w', hrun, h2, h3, _, _⟩ := run_append_own_at (P := Tryd.prog) (W.alloc (.cells #[.int .i64 x] 3)).drew base 28 ty 3 i0 (.int .i64 0) 1 8 Tryd.underlying28 hi hz0 hz1 hz2 rfl (by decide) v k xs (hrow.alloc _).drew ⟨W.heap.size, 0, none⟩ 1 1 [.int .i64 x] rfl (cells_new W _ _)
    (by intro u hu; simp only [List.mem_singleton] at hu; subst hu; rfl) (by unfold maxLen; omega) (by omega) (by show base ≤ (W.alloc _).heap.size; simp; omega)
  exact ⟨v', w', hrun, h2, ⟨h3.os, h3.tape, h3.output, h3.size, h3.block⟩⟩
def numVals (l : List Nat) : List Value := l.map fun (m : Nat) => Value.int .i64 (m : Int)
/-- What a list box holds. -/
def ListBox (W : World) (n0 B : Nat) (t : TypeId) (l : List Nat) : Prop := ∃ v, Boxed W B t v ∧ W.ownsRow n0 3 1 v l.length (numVals l)
/-- What ChainOf answers. -/
def ListGot (ok : Prop) (l : List Nat) (w : World) (e : Ending) (w' : World) : Prop :=
  (¬ ok ∧ e = .returned (.tuple #[.slice none 0 0, .bool false]) ∧ Below w.heap.size w w') ∨
  (ok ∧ ∃ v, e = .returned (.tuple #[v, .bool true]) ∧ w'.ownsRow w.heap.size 3 1 v l.length (numVals l) ∧ Below w.heap.size w w')
theorem ownsRow_lower {w : World} {B B' : Nat} {e : TypeId} {size n : Nat} {v : Value} {xs : List Value} (h : w.ownsRow B e size v n xs) (hB : B' ≤ B) : w.ownsRow B' e size v n xs := by
  obtain ⟨hl, h2 | ⟨g, cap, cur, hv, hg, hr⟩⟩ := h
  · exact ⟨hl, .inl h2⟩
  · exact ⟨hl, .inr ⟨g, cap, cur, hv, Nat.le_trans hB hg, hr⟩⟩
theorem numVals_snoc (l : List Nat) (m : Nat) : numVals (l ++ [m]) = numVals l ++ [.int .i64 (m : Int)] := by simp [numVals]
theorem cellsKept_own {α : Type} (w0 : World) {n : Nat} : OwnFrom n (fun (_ : α) W => CellsKept w0.heap.size w0 W) :=
  fun _ _ _ _ hs hg hr => ⟨Nat.le_trans hs.size hg.size, fun g vs t fr hlt hh => by
    have h1 := hs.block g vs t fr hlt hh
    refine (hg.block g (Array.getElem?_eq_some_iff.1 h1).1 (fun e => ?_)).trans h1
    obtain ⟨_, o, ho, hc⟩ := hr g e.symm
    rw [h1] at ho
    cases ho
    cases hc⟩
set_option maxRecDepth 100000 in
set_option maxHeartbeats 4000000 in
theorem implChain_any (ss : List Sc) (hF : Fair ss) (oa : Option Addr) (cap : Nat) (n : Int) (w : World) (hc : HoldsScopes w oa ss) (hE : NodeErrs w) :
    Calls Tryd.prog 28 #[.agg #[.slice oa ss.length cap], .int .i64 n] w (ListGot (HasScope ss n) (chainP ss n.toNat) w) := by
  have hb0 := (Below.refl w.heap.size w).alloc (Nat.le_refl _) (.cells #[.slice oa ss.length cap] 25)
  have C := Lib.hid ((callsIn_wide (n := 5)).2 (nodeOf_any ss hF oa cap n _ (hc.below hb0 (Nat.le_refl _)) (hE.at hb0)))
  have HB0 := Lib.hid hb0
  clear hF hc hE hb0
  refine (callsIn_wide (n := 6)).1 ?_
  refine callsIn_of_wp_marks Tryd.func28 rfl trivial ?_ rfl
  simp only [Tryd.ntmps28, List.size_toArray, List.length_cons, List.length_nil, Nat.reduceAdd, Nat.reduceSub, Array.replicate_succ, Array.replicate_zero, List.push_toArray, List.append_toArray, List.nil_append, List.cons_append]
  gi_wp2_with fail
  refine ⟨trivial, ?_⟩
  gi_at_call 55
  refine C.out.mono ?_
  rintro e w1 (⟨hv, ⟨tp, p, rfl⟩, hb⟩ | ⟨hv, s, d, T, M1, M2, v, ds, rfl, hs, hd, rfl, hb, hT⟩)
  · have HV := Lib.hid hv
    have HB := Lib.hid (HB0.out.trans (hb.mono HB0.out.size))
    clear hv hb
    gi_wp2
    exact ⟨_, results_tmp2 rfl _ _ _, .inl ⟨HV.out, rfl, HB.out⟩⟩
  · have HV : Hid (HasScope ss (s : Int)) := Lib.hid ⟨hv, by omega, by omega⟩
    have HB := Lib.hid (HB0.out.trans (hb.mono HB0.out.size))
    have HT := Lib.hid hT
    have HD := Lib.hid hd
    have HC := Lib.hid hv.climbs
    have H6 := Lib.hid hv.count.2
    have HS := Lib.hid hs
    clear hv hb hT hd hs
    gi_wp2_with fail
    refine ⟨trivial, ?_⟩
    gi_at_call 60
    refine ((callsIn_wide (n := 5)).2 (outward_any _ _)).mono ?_
    rintro e w2 ⟨rfl, rfl⟩
    gi_wp2
    have hW2 : Below w1.heap.size w1 ((w1.alloc (.cells #[.slice none 0 0] 28)).alloc (.cells #[.pointer (some ⟨d.blk, 0, none⟩)] 78)) := ((Below.refl _ _).alloc (Nat.le_refl _) _).alloc (by simp) _
    have bL := (Boxed.new w1 28 (.slice none 0 0)).alloc (.cells #[.pointer (some ⟨d.blk, 0, none⟩)] 78)
    have bN := Boxed.new (w1.alloc (.cells #[.slice none 0 0] 28)) 78 (.pointer (some ⟨d.blk, 0, none⟩))
    rw [World.size_alloc] at bN
    refine wpIn_rangeFunc_ownH rfl (by omega) (gf := 96) (lb := #[.pointer (some ⟨w1.heap.size + 1, 0, none⟩)]) rfl trivial (enters_of Tryd.func96 (by kernel_rfl) rfl)
      (outward_stops 5 (by omega) (w1.heap.size + 1) w.heap.size T M1 M2 v ds ss w1 _ (HT.out.tree.lower (by simp)) HT.out.pars HC.out HT.out.hold.len s d HD.out (.of_below hW2) bN.cell) CellsKept.trans (fun W l o o' _ h1 h2 h3 => cellsKept_b (w := w1) W l o o' (by simp at *; omega) h1 h2 h3) (Below.refl _ _) (fun _ => rfl)
      (fun pre W => (∃ u, Boxed W w1.heap.size 28 u ∧ W.ownsRow w1.heap.size 3 1 u pre.length (numVals (pre.map NdOf.num)) ∧ True) ∧ (CellsKept w1.heap.size w1 W ∧ Below w1.heap.size w1 W))
      (fun _ _ _ => False)
      (OwnFrom.and (Own.from (holdsRow_own w1.heap.size w1.heap.size 28 3 1 (fun pre : List (NdOf ds) => pre.length) (fun pre => numVals (pre.map NdOf.num)) (fun _ _ => True)) _) (OwnFrom.and (cellsKept_own w1) (ownFrom_below (Nat.le_refl _) (by simp; omega))))
      (fun _ _ _ _ _ hs _ _ => hs)
      ⟨⟨_, bL, World.ownsRow_nil _ _ _ _, trivial⟩, .of_below hW2, hW2⟩
      (fun x a' _ => a' = { tmps := #[.agg #[.slice oa ss.length cap], .int .i64 s, .pointer (some ⟨w.heap.size, 0, none⟩), undef, .slice none 0 0, .bool false, .pointer (some ⟨T, 0, none⟩), .pointer (some ⟨d.blk, 0, none⟩), .nilIface, .pointer (some ⟨w1.heap.size, 0, none⟩), .pointer (some ⟨x.1.2.blk, 0, none⟩),
        .tuple #[.pointer (some ⟨T, 0, none⟩), .pointer (some ⟨d.blk, 0, none⟩), .nilIface], .agg #[.slice oa ss.length cap], .int .i64 s, .tuple #[.pointer (some ⟨T, 0, none⟩), .pointer (some ⟨d.blk, 0, none⟩), .nilIface], .pointer (some ⟨T, 0, none⟩), .pointer (some ⟨d.blk, 0, none⟩), .nilIface, .nilIface, .bool false, .pointer (some ⟨d.blk, 0, none⟩),
        .func (.func 96) #[] #[.pointer (some ⟨w1.heap.size + 1, 0, none⟩)], .pointer (some ⟨x.1.2.blk, 0, none⟩), undef, undef, undef, undef, undef, undef, undef, undef], defers := [] })
      (fun _ _ _ _ _ _ hs _ _ => hs)
      ?assign ?body ?done ?stop
    case assign =>
      rintro l pre x W K hi hK
      dsimp only [ndArgs]
      gi_wp2
      exact hK _ _ (KeepsFrom.refl _ _) (CellsKept.refl _ _) hi rfl
    case body =>
      rintro l pre x a' W hl _ ⟨⟨u, hB, hrow, -⟩, hck, hbw⟩ rfl hlen
      obtain ⟨⟨i, c⟩, hci⟩ := x
      dsimp only
      have hcell := (((HT.out.tree.kept hck (Nat.le_refl _)).node i c hci).2.cell (i := 0) (v := .int .i64 (i : Int)) (by rfl))
      have hlen' : pre.length < 1000000 := by have := chain_bound HC.out HS.out; have := H6.out; omega
      obtain ⟨v', w3, hrun, hown', hgrow⟩ := append_int hrow (i : Int) hlen' hbw.size 28
      obtain ⟨g', cap', rfl⟩ := ownsRow_succ hown'
      simp [go_sem] at hrun
      obtain ⟨hv1, hv2, hr2, hk2, hb2⟩ := hB.appended (by decide) hrow hbw.size (Nat.le_refl _) hown' hgrow
      have HQ : Hid (numVals (List.map NdOf.num (pre ++ [(⟨(i, c), hci⟩ : NdOf ds)])) = numVals (pre.map NdOf.num) ++ [.int .i64 (i : Int)]) := Lib.hid (by rw [List.map_append]; exact numVals_snoc _ _)
      have HQL : Hid ((pre ++ [(⟨(i, c), hci⟩ : NdOf ds)]).length = pre.length + 1) := Lib.hid (by simp)
      have c0 := hB.cell
      have c0' := (hB.alloc (.cells #[.int .i64 (i : Int)] 3)).cell
      have c1 := hv1.cell
      have f1 := hv1.frozen
      have HP := Lib.hid (And.intro hv2 (And.intro hr2 (And.intro hk2 hb2)))
      have HBW := Lib.hid (And.intro hck hbw)
      clear hB hrow hck hbw hown' hgrow hv1 hv2 hr2 hk2 hb2
      gi_wp2
      gi_region_with fail
      all_goals gi_wp2
      all_goals (refine ⟨HP.out.2.2.1.from _, .of_below HP.out.2.2.2, ⟨_, HP.out.1, ?_, trivial⟩, HBW.out.1.trans (.of_below HP.out.2.2.2), HBW.out.2.trans HP.out.2.2.2⟩; rw [HQ.out, HQL.out]; exact HP.out.2.1)
    case done =>
      rintro D xs W hD hS ⟨⟨u, hB, hrow, -⟩, hck, hbw⟩ hK
      have cB := hB.cell
      have HS2 := Lib.hid hS
      clear hS
      gi_wp2
      refine ⟨by simp, .inl ⟨_, _, rfl, run_takeDeferred hK, ?_⟩⟩
      have hrow2 := ownsRow_lower (ownsRow_putObj hrow (.deferred none) hK rfl) (show w.heap.size ≤ w1.heap.size from HB.out.size)
      have hl2 : xs.length = (chainP ss s).length := by rw [← HS2.out, List.length_map]
      rw [HS2.out, hl2] at hrow2
      have hend : Below w.heap.size w (W.putObj D (.deferred none)) := HB.out.trans ((hbw.mono HB.out.size).trans (belowK_b (w := w) (Nat.le_refl _) W D _ _ (by have := HB.out.size; simp at hD; omega) hK rfl rfl))
      exact ⟨_, results_tmp2 rfl _ _ _, .inr ⟨HV.out, u, rfl, by simpa using hrow2, hend⟩⟩
    case stop =>
      rintro D c pre W _ _ h _
      exact h.elim
theorem row_own {α : Type} (n g : Nat) (t : TypeId) (f : α → List Value) : OwnFrom n (fun (s : α) W => Row W g t (f s)) :=
  fun _ _ _ _ hs hg hr => hs.grown hg (fun e => by
    obtain ⟨_, o, ho, hc⟩ := hr g e.symm
    unfold Row at hs
    rw [hs] at ho
    cases ho
    cases hc)
end Go.Proofs.YtjogfagjcpcihaaDoor
namespace Go.Proofs.YtjogfagjcpcihaaDoor
open Go Go.RowKit
set_option maxRecDepth 100000 in
theorem specScope_any (ss : List Sc) (hf : FitsScopes ss) (oa : Option Addr) (cap : Nat) (n : Int) (w : World) (hc : HoldsScopes w oa ss) :
    Calls Tryd.prog 57 #[.agg #[.slice oa ss.length cap], .int .i64 n] w fun e w' => ∃ b : Bool, e = .returned (.bool b) ∧ (b = true ↔ HasScope ss n) ∧ Below w.heap.size w w' := by
  have hb0 := (Below.refl w.heap.size w).alloc (Nat.le_refl _) (.cells #[.slice oa ss.length cap] 25)
  have C := Lib.hid (specValid_any ss oa cap _ hf (hc.below hb0 (Nat.le_refl _)))
  have R := Lib.hid (Row.new w [.slice oa ss.length cap] 25)
  have HB0 := Lib.hid hb0
  have hl := hf.1
  clear hf hc hb0
  go_enter Tryd.func57, Tryd.ntmps57
  go_wp2_with fail
  refine C.out.mono ?_
  rintro e w1 ⟨b, rfl, hv, hb⟩
  have HB := Lib.hid (HB0.out.trans (hb.mono HB0.out.size))
  have c1 := (R.out.below hb R.out.lt).cell (i := 0) (by rfl)
  have HV := Lib.hid hv
  clear hb hv
  cases b
  · have HN : Hid (¬ HasScope ss n) := Lib.hid (fun h => by have := HV.out.2 h.1; cases this)
    go_wp2
    go_ret
    exact ⟨false, rfl, by simp [HN.out], HB.out⟩
  · go_wp2_with fail
    refine (l1In_any _ _ _ _).mono ?_
    rintro e w2 ⟨rfl, rfl⟩
    have HN : Hid (inB n 0 ((ss.length : Int) - 1) = true ↔ HasScope ss n) := Lib.hid (by
      unfold inB HasScope
      simp only [Bool.and_eq_true, decide_eq_true_eq]
      constructor
      · intro h; exact ⟨HV.out.1 (by first | trivial | rfl), by omega, by omega⟩
      · intro h; omega)
    generalize inB n 0 ((ss.length : Int) - 1) = q at HN ⊢
    go_wp2
    go_ret
    exact ⟨q, rfl, HN.out, HB.out⟩
/-- What a given list function with a truth answers. -/
def ListGot2 (ok : Prop) (l : List Nat) (w : World) (e : Ending) (w' : World) : Prop :=
  (¬ ok ∧ ∃ g, e = .returned (.tuple #[.slice (some ⟨g, 0, none⟩) 0 0, .bool false]) ∧ Below w.heap.size w w') ∨
  (ok ∧ ∃ v, e = .returned (.tuple #[v, .bool true]) ∧ w'.ownsRow w.heap.size 3 1 v l.length (numVals l) ∧ Below w.heap.size w w')
/-- What the given list functions leave. -/
def NumsGot (l : List Nat) (w : World) (e : Ending) (w' : World) : Prop := ∃ v, e = .returned v ∧ w'.ownsRow w.heap.size 3 1 v l.length (numVals l) ∧ Below w.heap.size w w'
theorem ownsRow_ne {w : World} {g base n size : Nat} {t e : TypeId} {vs xs : List Value} {v : Value} (hr : Row w g t vs) (ht : t ≠ e) (h : w.ownsRow base e size v n xs) : some g ≠ v.ownBlock := by
  obtain ⟨hl, h2 | ⟨g', cap, cur, hv, hB, hh, _⟩⟩ := h
  · rw [h2.1]; simp [Value.ownBlock]
  · rw [hv]
    intro e'
    simp only [Value.ownBlock, Option.some.injEq] at e'
    subst e'
    unfold Row at hr
    rw [hr] at hh
    simp at hh
    exact ht hh.2
/-- One number appended, as the operation runs it where no order is drawn. -/
theorem append_int0 {W : World} {base k : Nat} {v : Value} {xs : List Value} (hrow : W.ownsRow base 3 1 v k xs) (x : Int) (hk : k < 1000000) (hbase : base ≤ W.heap.size) (ty : TypeId) :
    ∃ v' w', (Builtin.append_ #[28, 28] ty #[v, .slice (some ⟨W.heap.size, 0, none⟩) 1 1]).run Tryd.prog (W.alloc (.cells #[.int .i64 x] 3)) = .ok v' w' ∧ w'.ownsRow base 3 1 v' (k + 1) (xs ++ [.int .i64 x]) ∧ (W.alloc (.cells #[.int .i64 x] 3)).grownBy w' v.ownBlock := by
  obtain ⟨i0, hi, hz0, hz1, hz2⟩ := info_parts infoInt
  obtain ⟨v', w', hrun, h2, h3, _, _⟩ := run_append_own_at (P := Tryd.prog) (W.alloc (.cells #[.int .i64 x] 3)) base 28 ty 3 i0 (.int .i64 0) 1 8 Tryd.underlying28 hi hz0 hz1 hz2 rfl (by decide) v k xs (hrow.alloc _) ⟨W.heap.size, 0, none⟩ 1 1 [.int .i64 x] rfl (cells_new W _ _)
    (by intro u hu; simp only [List.mem_singleton] at hu; subst hu; rfl) (by unfold maxLen; omega) (by omega) (by simp; omega)
  exact ⟨v', w', hrun, h2, h3⟩
theorem below_append {W w' : World} {base k n : Nat} {v : Value} {xs : List Value} {o : Obj} (hrow : W.ownsRow base 3 1 v k xs) (hg : (W.alloc o).grownBy w' v.ownBlock) (hb : n ≤ base) (hW : n ≤ W.heap.size) : Below n W w' := by
  refine ((Below.refl n W).alloc hW o).grown hg (by simp; omega) (fun r e => ?_)
  obtain ⟨_, h2 | ⟨g', cap, cur, hv, hB, _, _⟩⟩ := hrow
  · rw [h2.1] at e; simp [Value.ownBlock] at e
  · rw [hv] at e; simp only [Value.ownBlock, Option.some.injEq] at e; omega
set_option maxRecDepth 100000 in
set_option maxHeartbeats 1600000 in
theorem specL2Chain_any (ss : List Sc) (hv : Valid ss) (oa : Option Addr) (cap : Nat) (s0 : Nat) (hs : s0 < ss.length) (w : World) (hc : HoldsScopes w oa ss) :
    Calls Tryd.prog 97 #[.agg #[.slice oa ss.length cap], .int .i64 s0] w (NumsGot (chainP ss s0) w) := by
  have HC := Lib.hid hc
  have HK := Lib.hid hv.climbs
  have h6 := hv.count.2
  have HS := Lib.hid hs
  have R0 := Lib.hid (Row.new w [.slice oa ss.length cap] 25)
  clear hc hv hs
  go_enter Tryd.func97, Tryd.ntmps97
  go_wp2
  go_loopw [1, 5] (fun sv v wr => ∃ pre : List Nat, Row wr w.heap.size 25 [.slice oa ss.length cap] ∧ wr.ownsRow w.heap.size 3 1 v pre.length (numVals pre) ∧ Below w.heap.size w wr ∧
      ((sv = .int .i64 (-1) ∧ Hid (pre = chainP ss s0)) ∨ ∃ i : Nat, sv = .int .i64 i ∧ i < ss.length ∧ Hid (pre ++ chainP ss i = chainP ss s0))) (fun sv _ _ => (intOf sv + 1).toNat)
  case atStart =>
    refine ⟨[], R0.out.alloc _, ?_, ((Below.refl _ _).alloc (Nat.le_refl _) _).alloc (by simp) _, .inr ⟨s0, rfl, HS.out, Lib.hid rfl⟩⟩
    have h0 := World.ownsRow_made (base := w.heap.size) (e := 3) (size := 1) (w.alloc (.cells #[.slice oa ss.length cap] 25)) #[] 0 (by simp) (by unfold maxLen; omega) rfl
    rw [World.size_alloc] at h0
    exact h0
  case round =>
    obtain ⟨pre, hR, hrow, hb, ⟨rfl, hpre⟩ | ⟨i, rfl, hi, hpre⟩⟩ := hrel
    · have HP := Lib.hid (And.intro hrow hb)
      clear hrow hb
      go_wp2
      go_ret
      exact ⟨_, rfl, by have := HP.out.1; rw [hpre.out] at this; exact this, HP.out.2⟩
    · obtain ⟨c, hci⟩ : ∃ c, ss[i]? = some c := ⟨_, List.getElem?_eq_getElem hi⟩
      obtain ⟨b, off, rfl, hbb, hcell⟩ := HC.out.at (by omega)
      obtain ⟨oi, ci, a0, -, -⟩ := hcell i c hci
      have hk : pre.length < 1000000 := by
        have h1 := congrArg List.length hpre.out
        have h2 := chain_bound HK.out HS.out
        rw [List.length_append] at h1
        omega
      have HROW := Lib.hid hrow
      have HBR := Lib.hid hb
      have HRR := Lib.hid hR
      have HCI := Lib.hid hci
      obtain ⟨i0, hi0, hz0, hz1, hz2⟩ := info_parts infoInt
      have g0 := hR.cell (i := 0) (by rfl)
      have a0' := (hb.cell (p := ⟨b, off + i * 2, none⟩) hbb).trans a0
      have hbs := hb.size
      clear hR hb a0 hcell hci
      go_wp2_with (at_builtin; refine wpList_append_own _ rfl _ _ 28 rfl w.heap.size 3 i0 (.int .i64 0) 1 8 Tryd.underlying28 hi0 hz0 hz1 hz2 rfl (by decide) _ _ _ rfl (hrow.alloc _) ⟨wr.heap.size, 0, none⟩ 1 1 [.int .i64 (i : Int)] rfl rfl ?c1 ?c2 ?c3 ?c4 ?c5 ?_)
      case c1 => exact cells_new _ _ _
      case c2 => intro u hu; simp only [List.mem_singleton] at hu; subst hu; rfl
      case c3 => unfold maxLen; omega
      case c4 => omega
      case c5 => simp only [World.size_alloc]; omega
      intro v' w3 hown' hgrow _
      have hB3 := below_append HROW.out hgrow (Nat.le_refl w.heap.size) hbs
      have hR3 : Row w3 w.heap.size 25 [.slice (some ⟨b, off, none⟩) ss.length cap] := (HRR.out.alloc _).grown hgrow (ownsRow_ne HRR.out (by decide) HROW.out)
      have c0 := hR3.cell (i := 0) (by rfl)
      have a3 := (hB3.cell (p := ⟨b, off + i * 2, none⟩) hbb).trans a0'
      obtain ⟨g', cap', rfl⟩ := ownsRow_succ hown'
      have HR3 := Lib.hid hR3
      have HO := Lib.hid hown'
      have HB := Lib.hid (HBR.out.trans hB3)
      have hcs := HK.out.cases HCI.out
      clear hrow hown' hgrow hB3 hR3 a0' g0
      rcases hcs with ⟨hz, h1, h2⟩ | ⟨p, h1, hlt, h2⟩
      · rw [h1] at a3
        have HE : Hid (pre ++ [i] = chainP ss s0) := Lib.hid (by rw [← hpre.out, chain_none h2])
        clear h1 h2 hz
        go_wp2
        go_roundw
        case rel => exact ⟨pre ++ [i], HR3.out, by rw [List.length_append, numVals_snoc]; exact HO.out, HB.out, .inl ⟨rfl, HE⟩⟩
        case measure => simp only [intOf]; omega
      · rw [h1] at a3
        have HE : Hid ((pre ++ [i]) ++ chainP ss p = chainP ss s0) := Lib.hid (by rw [← hpre.out, chain_some HK.out h2, List.append_assoc]; rfl)
        clear h1 h2
        go_wp2
        go_roundw
        case rel => exact ⟨pre ++ [i], HR3.out, by rw [List.length_append, numVals_snoc]; exact HO.out, HB.out, .inr ⟨p, rfl, by omega, HE⟩⟩
        case measure => simp only [intOf]; omega
set_option maxRecDepth 100000 in
theorem specChain_any (ss : List Sc) (hf : FitsScopes ss) (oa : Option Addr) (cap : Nat) (n : Int) (w : World) (hc : HoldsScopes w oa ss) :
    Calls Tryd.prog 61 #[.agg #[.slice oa ss.length cap], .int .i64 n] w (ListGot2 (HasScope ss n) (chainP ss n.toNat) w) := by
  have hb0 := (Below.refl w.heap.size w).alloc (Nat.le_refl _) (.cells #[.slice oa ss.length cap] 25)
  have C := Lib.hid (specScope_any ss hf oa cap n _ (hc.below hb0 (Nat.le_refl _)))
  have R := Lib.hid (Row.new w [.slice oa ss.length cap] 25)
  have HB0 := Lib.hid hb0
  have HC := Lib.hid hc
  clear hf hc hb0
  go_enter Tryd.func61, Tryd.ntmps61
  go_wp2_with fail
  refine C.out.mono ?_
  rintro e w1 ⟨b, rfl, hv, hb⟩
  have HB := Lib.hid (HB0.out.trans (hb.mono HB0.out.size))
  have c1 := (R.out.below hb R.out.lt).cell (i := 0) (by rfl)
  have HV := Lib.hid hv
  clear hb hv
  cases b
  · have HN : Hid (¬ HasScope ss n) := Lib.hid (fun h => by have := HV.out.2 h; cases this)
    go_wp2
    go_ret2
    exact .inl ⟨HN.out, _, rfl, HB.out.alloc HB.out.size _⟩
  · obtain ⟨hv, h0, h1⟩ := HV.out.1 rfl
    obtain ⟨s, rfl⟩ : ∃ s : Nat, n = (s : Int) := ⟨n.toNat, by omega⟩
    have C2 := Lib.hid (specL2Chain_any ss hv oa cap s (by omega) _ (HC.out.below HB.out (Nat.le_refl _)))
    have HH := Lib.hid (And.intro hv (And.intro h0 h1))
    clear hv h0 h1
    go_wp2_with fail
    refine C2.out.mono ?_
    rintro e w2 ⟨v, rfl, hrow, hb2⟩
    have HB2 := Lib.hid (HB.out.trans (hb2.mono HB.out.size))
    have HR := Lib.hid (ownsRow_lower hrow HB.out.size)
    clear hb2 hrow
    go_wp2
    go_ret2
    exact .inr ⟨HH.out, v, rfl, HR.out, HB2.out⟩
/-- The depth, as both answer it. -/
def depthP (ss : List Sc) (s : Nat) : Int := ((chainP ss s).length : Int) - 1
def DepthGot (ss : List Sc) (n : Int) (w : World) (e : Ending) (w' : World) : Prop :=
  ((¬ HasScope ss n ∧ e = .returned (.int .i64 (-1))) ∨ (HasScope ss n ∧ e = .returned (.int .i64 (depthP ss n.toNat)))) ∧ Below w.heap.size w w'
theorem ownsRow_slice {w : World} {B : Nat} {e : TypeId} {size n : Nat} {v : Value} {xs : List Value} (h : w.ownsRow B e size v n xs) : ∃ oa cap, v = .slice oa n cap := by
  obtain ⟨_, h2 | ⟨g, cap, cur, hv, _⟩⟩ := h
  · exact ⟨none, 0, by rw [h2.1, h2.2]⟩
  · exact ⟨_, _, hv⟩
theorem cell_drew {W : World} {p : Addr} {v : Value} (h : W.cell? p = some v) : W.drew.cell? p = some v := h
theorem cell_grow {W W' : World} {p : Addr} {v : Value} (hb : Below W.heap.size W W') (h : W.cell? p = some v) : W'.cell? p = some v := (hb.cell (World.block_lt_of_cell? _ _ h)).trans h
end Go.Proofs.YtjogfagjcpcihaaDoor
namespace Go.Proofs.YtjogfagjcpcihaaDoor
open Go Go.RowKit
/-- A slice's cells hold these numbers. -/
def HoldsInts (w : World) (oa : Option Addr) (xs : List Int) : Prop :=
  xs = [] ∨ ∃ b off, oa = some ⟨b, off, none⟩ ∧ b < w.heap.size ∧ ∀ i x, xs[i]? = some x → w.cell? ⟨b, off + i, none⟩ = some (.int .i64 x)
theorem HoldsInts.below {w w' : World} {oa : Option Addr} {xs : List Int} (h : HoldsInts w oa xs) (hb : Below w.heap.size w w') : HoldsInts w' oa xs := by
  rcases h with h | ⟨b, off, h1, h2, h3⟩
  · exact .inl h
  · exact .inr ⟨b, off, h1, Nat.lt_of_lt_of_le h2 hb.size, fun i x hx => (hb.cell (p := ⟨b, _, none⟩) h2).trans (h3 i x hx)⟩
theorem HoldsInts.at {w : World} {oa : Option Addr} {xs : List Int} (h : HoldsInts w oa xs) (hne : 0 < xs.length) : ∃ b off, oa = some ⟨b, off, none⟩ ∧ b < w.heap.size ∧ ∀ i x, xs[i]? = some x → w.cell? ⟨b, off + i, none⟩ = some (.int .i64 x) := by
  rcases h with h | h
  · subst h; simp at hne
  · exact h
def natInts (l : List Nat) : List Int := l.map fun (m : Nat) => (m : Int)
theorem holdsInts_of_owns {w : World} {B : Nat} {v : Value} {l : List Nat} (h : w.ownsRow B 3 1 v l.length (numVals l)) : ∃ oa cap, v = .slice oa (natInts l).length cap ∧ HoldsInts w oa (natInts l) := by
  have hln : (natInts l).length = l.length := by simp [natInts]
  obtain ⟨hl, h2 | ⟨g, cap, cur, hv, hB, hh, hn, _, hs, ht⟩⟩ := h
  · refine ⟨none, 0, by rw [h2.1, hln, h2.2], .inl ?_⟩
    have := List.eq_nil_of_length_eq_zero h2.2
    rw [this]; rfl
  · refine ⟨_, cap, by rw [hln]; exact hv, .inr ⟨g, 0, rfl, (Array.getElem?_eq_some_iff.1 hh).1, fun i x hx => ?_⟩⟩
    have hil := (List.getElem?_eq_some_iff.1 hx).1
    have hx' : (numVals l)[i]? = some (.int .i64 x) := by
      unfold natInts at hx
      unfold numVals
      rw [List.getElem?_map] at hx ⊢
      cases e : l[i]? with
      | none => rw [e] at hx; cases hx
      | some m => rw [e] at hx; simp at hx; subst hx; rfl
    rw [← ht, List.getElem?_take_of_lt (by omega)] at hx'
    rw [Nat.zero_add]
    simp [World.cell?, hh]
    simpa using hx'
set_option maxRecDepth 100000 in
set_option maxHeartbeats 1600000 in
theorem eqIntS_same (xs : List Int) (o1 o2 : Option Addr) (c1 c2 : Nat) (w : World) (hn : xs.length < 2 ^ 40) (k1 : HoldsInts w o1 xs) (k2 : HoldsInts w o2 xs) :
    Calls Tryd.prog 35 #[.slice o1 xs.length c1, .slice o2 xs.length c2] w fun e w' => e = .returned (.bool true) ∧ Below w.heap.size w w' := by
  have K1 := Lib.hid k1
  have K2 := Lib.hid k2
  clear k1 k2
  go_enter Tryd.func35, Tryd.ntmps35
  go_wp2
  go_loopw [5] (fun i wr => ∃ k : Nat, i = .int .i64 k ∧ k ≤ xs.length ∧ Below w.heap.size w wr) (fun i _ => xs.length - (intOf i).toNat)
  case atStart => exact ⟨0, rfl, Nat.zero_le _, Below.refl _ _⟩
  case round =>
    obtain ⟨k, rfl, hk, hb⟩ := hrel
    by_cases hlt : k < xs.length
    · obtain ⟨x, hx⟩ : ∃ x, xs[k]? = some x := ⟨_, List.getElem?_eq_getElem hlt⟩
      obtain ⟨b1, f1, rfl, hb1, q1⟩ := K1.out.at (by omega)
      obtain ⟨b2, f2, rfl, hb2, q2⟩ := K2.out.at (by omega)
      have a0 := (hb.cell (p := ⟨b1, f1 + k, none⟩) hb1).trans (q1 k x hx)
      have d0 := (hb.cell (p := ⟨b2, f2 + k, none⟩) hb2).trans (q2 k x hx)
      clear hx q1 q2
      go_wp2
      go_region
      go_wp2
      go_roundw
      case rel => exact ⟨k + 1, by go_num, by omega, hb.drew⟩
      case measure => simp only [intOf]; omega
    · go_wp2
      go_ret
      exact ⟨rfl, hb⟩
/-- A row of numbers that is the list's own. -/
def OwnInts (w : World) (B : Nat) (oa : Option Addr) (n : Nat) : Prop := n = 0 ∨ ∃ (g : Nat) (vs : List Value), oa = some ⟨g, 0, none⟩ ∧ B ≤ g ∧ Row w g 3 vs ∧ n ≤ vs.length
/-- It holds the numbers from k on. -/
def Marked (w : World) (oa : Option Addr) (n : Nat) (k : Int) : Prop := n = 0 ∨ ∃ (g : Nat) (vs : List Value), oa = some ⟨g, 0, none⟩ ∧ Row w g 3 vs ∧ ∀ i, i < n → vs[i]? = some (.int .i64 (k + i))
theorem ownInts_of_owns {w : World} {B n : Nat} {oa : Option Addr} {cap : Nat} {xs : List Value} (h : w.ownsRow B 3 1 (.slice oa n cap) n xs) : OwnInts w B oa n := by
  obtain ⟨hl, h2 | ⟨g, cap', cur, hv, hB, hh, hn, _, hs, ht⟩⟩ := h
  · exact .inl h2.2
  · simp only [Value.slice.injEq] at hv
    obtain ⟨rfl, _, _⟩ := hv
    exact .inr ⟨g, cur.toList, rfl, hB, hh, by rw [Array.length_toList]; omega⟩
theorem OwnInts.below {w w' : World} {B n : Nat} {oa : Option Addr} (h : OwnInts w B oa n) (hb : Below w.heap.size w w') : OwnInts w' B oa n := by
  rcases h with h | ⟨g, vs, h1, h2, h3, h4⟩
  · exact .inl h
  · exact .inr ⟨g, vs, h1, h2, h3.below hb h3.lt, h4⟩
theorem Marked.below {w w' : World} {n : Nat} {oa : Option Addr} {k : Int} (h : Marked w oa n k) (hb : Below w.heap.size w w') : Marked w' oa n k := by
  rcases h with h | ⟨g, vs, h1, h3, h4⟩
  · exact .inl h
  · exact .inr ⟨g, vs, h1, h3.below hb h3.lt, h4⟩
end Go.Proofs.YtjogfagjcpcihaaDoor
namespace Go.Proofs.YtjogfagjcpcihaaDoor
open Go Go.RowKit
theorem byte_cell (w : World) (x : Int) (i : Nat) (hi : i < 1) : (w.alloc (.cells #[.int .u8 x] 5)).cell? ⟨w.heap.size, 0 + i, none⟩ = some (.int .u8 ([x].getD i 0)) := by
  obtain rfl : i = 0 := by omega
  simp
theorem conv_byte (w : World) (x : Int) : (convert 22 9 (.slice (some ⟨w.heap.size, 0, none⟩) 1 1)).run Tryd.prog (w.alloc (.cells #[.int .u8 x] 5)) = .ok (.string (strOfNums [x])) (w.alloc (.cells #[.int .u8 x] 5)) :=
  run_convert_bytes_arg _ 22 5 Tryd.underlying22 Tryd.underlying5 w.heap.size 0 1 1 [x] rfl (byte_cell w x) 9 Tryd.underlying9
theorem pow_small {d k K : Nat} (hk : 1 ≤ k) (h : k * 10 ^ d ≤ K) (hK : K ≤ 1099511627776) : d ≤ 12 := by
  rcases Nat.lt_or_ge 12 d with hd | hd
  · have h1 : 10 ^ 13 ≤ 10 ^ d := Nat.pow_le_pow_right (by omega) hd
    have h2 : 1 * 10 ^ d ≤ k * 10 ^ d := Nat.mul_le_mul_right _ hk
    omega
  · exact hd
theorem pow_step {d k K : Nat} (h : k * 10 ^ d ≤ K) : k / 10 * 10 ^ (d + 1) ≤ K := by
  have h1 : k / 10 * 10 ≤ k := Nat.div_mul_le_self k 10
  have h2 : k / 10 * 10 ^ (d + 1) = k / 10 * 10 * 10 ^ d := by rw [Nat.pow_succ, Nat.mul_comm (10 ^ d) 10, ← Nat.mul_assoc]
  rw [h2]
  exact Nat.le_trans (Nat.mul_le_mul_right _ h1) h
end Go.Proofs.YtjogfagjcpcihaaDoor
namespace Go.Proofs.YtjogfagjcpcihaaDoor
open Go Go.RowKit
theorem Turns.set (w : World) (g i : Nat) (v : Value) : Turns w (w.setCell ⟨g, i, none⟩ v) g g :=
  ⟨rfl, rfl, rfl, by simp, fun b _ h _ => Below.heap_setCell _ _ _ _ h⟩
theorem Turns.id (w : World) (g : Nat) : Turns w w g g := ⟨rfl, rfl, rfl, Nat.le_refl _, fun _ _ _ _ => rfl⟩
/-- No block turns but those from b0 on and below b1. -/
structure Mid (b0 b1 : Nat) (w w' : World) : Prop where
  os : w'.os = w.os
  tape : w'.tape = w.tape
  output : w'.output = w.output
  size : w.heap.size ≤ w'.heap.size
  rest : ∀ b, b < w.heap.size → (b < b0 ∨ b1 ≤ b) → w'.heap[b]? = w.heap[b]?
theorem Mid.id (b0 b1 : Nat) (w : World) : Mid b0 b1 w w := ⟨rfl, rfl, rfl, Nat.le_refl _, fun _ _ _ => rfl⟩
theorem Mid.trans {b0 b1 : Nat} {a b c : World} (h : Mid b0 b1 a b) (k : Mid b0 b1 b c) : Mid b0 b1 a c :=
  ⟨k.os.trans h.os, k.tape.trans h.tape, k.output.trans h.output, Nat.le_trans h.size k.size, fun g hg hx => (k.rest g (Nat.lt_of_lt_of_le hg h.size) hx).trans (h.rest g hg hx)⟩
theorem Mid.of_turns {b0 b1 g : Nat} {w w' : World} (h : Turns w w' g g) (h0 : b0 ≤ g) (h1 : g < b1) : Mid b0 b1 w w' :=
  ⟨h.os, h.tape, h.output, h.size, fun b hb hx => h.rest b hb (by omega) (by omega)⟩
theorem Mid.of_below {b0 b1 : Nat} {w w' : World} (h : Below w.heap.size w w') : Mid b0 b1 w w' := ⟨h.os, h.tape, h.output, h.size, fun b hb _ => h.block b hb⟩
theorem Mid.below {b0 b1 B : Nat} {w w' : World} (h : Mid b0 b1 w w') (hB : B ≤ b0) (hs : B ≤ w.heap.size) : Below B w w' := ⟨h.os, h.tape, h.output, h.size, fun b hb => h.rest b (by omega) (by omega)⟩
theorem Mid.row {b0 b1 g : Nat} {t : TypeId} {vs : List Value} {w w' : World} (h : Mid b0 b1 w w') (hr : Row w g t vs) (hg : g < b0 ∨ b1 ≤ g) : Row w' g t vs := hr.same (h.rest g hr.lt hg)
theorem Row.same_cells {w : World} {g : Nat} {t t' : TypeId} {vs us : List Value} (h : Row w g t vs) (k : Row w g t' us) : vs = us := by
  unfold Row at h k
  rw [h] at k
  simp at k
  exact k.1
/-- A graph whose blocks are one's own. -/
structure OwnGraph (w : World) (g b0 b1 : Nat) (vs : List Value) (ss : List Sc) : Prop where
  low : b0 ≤ g
  high : g < b1
  row : Row w g 40 vs
  len : vs.length = 2 * ss.length
  items : ∀ i s, ss[i]? = some s → ∃ (gi ci : Nat) (us : List Value), vs[i * 2 + 1]? = some (.slice (some ⟨gi, 0, none⟩) s.items.length ci) ∧ g < gi ∧ gi < b1 ∧ Row w gi 42 us ∧ us.length = 3 * s.items.length
def marks : List Sc → Nat
  | [] => 0
  | s :: r => 1 + 3 * s.items.length + marks r
theorem marks_snoc (l : List Sc) (s : Sc) : marks (l ++ [s]) = marks l + (1 + 3 * s.items.length) := by
  induction l with
  | nil => simp [marks]
  | cons t r ih => simp only [List.cons_append, marks, ih]; omega
theorem marks_step {ss : List Sc} {j : Nat} {s : Sc} (h : ss[j]? = some s) : marks (ss.take (j + 1)) = marks (ss.take j) + (1 + 3 * s.items.length) := by
  rw [List.take_add_one, h]; exact marks_snoc _ _
theorem marks_take_le : ∀ (ss : List Sc) (j : Nat), marks (ss.take j) ≤ marks ss
  | [], j => by simp
  | s :: r, 0 => by simp [marks]
  | s :: r, j + 1 => by simp only [List.take_succ_cons, marks]; have := marks_take_le r j; omega
theorem marks_le : ∀ ss : List Sc, marks ss ≤ 3 * wScopes ss
  | [] => by simp [marks]
  | s :: r => by simp only [marks, wScopes]; have := marks_le r; have := wItems_eq s.items; omega
theorem OwnGraph.below {w w' : World} {g b0 b1 : Nat} {vs : List Value} {ss : List Sc} (h : OwnGraph w g b0 b1 vs ss) (hb : Below w.heap.size w w') : OwnGraph w' g b0 b1 vs ss where
  low := h.low
  high := h.high
  row := h.row.below hb h.row.lt
  len := h.len
  items := fun i s hs => by
    obtain ⟨gi, ci, us, q1, q2, q3, q4, q5⟩ := h.items i s hs
    exact ⟨gi, ci, us, q1, q2, q3, q4.below hb q4.lt, q5⟩
/-- The copy of a graph, as the laws make it, is one's own. -/
theorem toGraph_own {ss : List Sc} (hn : ss.length ≤ 1048576) (hn2 : ∀ s ∈ ss, s.items.length ≤ 1048576) {w0 : World} (oa : Option Addr) (cap : Nat) (hc : HoldsScopes w0 oa ss) {w : World} (hb : Below w0.heap.size w0 w) :
    Calls Tryd.prog 43 #[.agg #[.slice oa ss.length cap]] w fun e w' => ∃ g vs, e = .returned (.agg #[.slice (some ⟨g, 0, none⟩) ss.length ss.length]) ∧ HoldsScopes w' (some ⟨g, 0, none⟩) ss ∧ OwnGraph w' g w.heap.size w'.heap.size vs ss ∧ Below w.heap.size w w' :=
  (toGraph_any ss oa cap w hn hn2 (hc.below hb (Nat.le_refl _))).mono fun _ w' ⟨g, vs, h1, h2, h3, h4, h5, h6⟩ => ⟨g, vs, h1, h5.holds h4, ⟨by omega, h4.lt, h4, h3, fun i s hs => by
    obtain ⟨gi, _, b, c, d⟩ := h5 i s (List.getElem?_eq_some_iff.1 hs).1 hs
    exact ⟨gi, _, _, b, c, d.lt, d, by rw [itemCells_length]⟩⟩, h6⟩
end Go.Proofs.YtjogfagjcpcihaaDoor
namespace Go.Proofs.YtjogfagjcpcihaaDoor
open Go Go.RowKit
theorem infoPlace : (Tryd.prog.info? 32).map (fun i => (i.zero, i.size, i.bytes)) = some (some (.agg #[.int .i64 0, .int .i64 0]), 2, 16) := by kernel_rfl
theorem toPlace_any (a b : Int) (w : World) :
    Calls Tryd.prog 78 #[.agg #[.int .i64 a, .int .i64 b]] w fun e w' => e = .returned (.agg #[.int .i64 a, .int .i64 b]) ∧ Below w.heap.size w w' := by
  go_enter Tryd.func78, Tryd.ntmps78
  go_wp2
  refine bodyPost_ret (v := .agg #[.int .i64 a, .int .i64 b]) (by simp [results, Tryd.results78, go_sem]) rfl ⟨rfl, ?_⟩
  repeat (first | exact Below.refl _ _ | apply Below.drew | refine Below.alloc ?_ (by simp <;> omega) _ | refine Below.setCell ?_ (by simp <;> omega) _)
/-- The places' cells. -/
def placeCells (ps : List (Int × Int)) : List Value := ps.flatMap fun p => [.int .i64 p.1, .int .i64 p.2]
/-- A slice whose cells hold places. -/
def HoldsPlaces (w : World) (b off : Nat) (ps : List (Int × Int)) : Prop :=
  ∀ i p, ps[i]? = some p → w.cell? ⟨b, off + i * 2, none⟩ = some (.int .i64 p.1) ∧ w.cell? ⟨b, off + i * 2 + 1, none⟩ = some (.int .i64 p.2)
theorem placeCells_length (ps : List (Int × Int)) : (placeCells ps).length = 2 * ps.length := by
  induction ps with
  | nil => rfl
  | cons p r ih => unfold placeCells at ih ⊢; rw [List.flatMap_cons, List.length_append, ih]; simp; omega
theorem placeCells_snoc (ps : List (Int × Int)) (p : Int × Int) : placeCells (ps ++ [p]) = placeCells ps ++ [.int .i64 p.1, .int .i64 p.2] := by
  simp [placeCells]
theorem placeCells_at (ps : List (Int × Int)) : ∀ (i : Nat) (p : Int × Int), ps[i]? = some p → (placeCells ps)[i * 2]? = some (.int .i64 p.1) ∧ (placeCells ps)[i * 2 + 1]? = some (.int .i64 p.2) := by
  induction ps with
  | nil => intro i p h; simp at h
  | cons q r ih =>
    intro i p h
    have e : placeCells (q :: r) = .int .i64 q.1 :: .int .i64 q.2 :: placeCells r := rfl
    cases i with
    | zero => simp at h; subst h; rw [e]; simp
    | succ i =>
      have := ih i p (by simpa using h)
      rw [e, show (i + 1) * 2 = i * 2 + 1 + 1 from by omega]
      simpa using this
/-- A block's row that holds places. -/
theorem Row.places {w : World} {g : Nat} {t : TypeId} {ps : List (Int × Int)} (h : Row w g t (placeCells ps)) : HoldsPlaces w g 0 ps := by
  intro i p hp
  obtain ⟨h1, h2⟩ := placeCells_at ps i p hp
  exact ⟨by rw [Nat.zero_add]; exact h.cell h1, by rw [Nat.zero_add]; exact h.cell h2⟩
theorem HoldsPlaces.below {w w' : World} {b off B : Nat} {ps : List (Int × Int)} (h : HoldsPlaces w b off ps) (hb : Below B w w') (hB : b < B) : HoldsPlaces w' b off ps := by
  intro i p hp
  obtain ⟨h1, h2⟩ := h i p hp
  exact ⟨(hb.cell (p := ⟨b, _, none⟩) hB).trans h1, (hb.cell (p := ⟨b, _, none⟩) hB).trans h2⟩
/-- One place more is laid. -/
theorem place_step {vs : List Value} {ps : List (Int × Int)} {k : Nat} {p : Int × Int} (hl : vs.length = 2 * ps.length) (ht : vs.take (2 * k) = placeCells (ps.take k)) (hp : ps[k]? = some p) :
    ((vs.set (k * 2) (.int .i64 p.1)).set (k * 2 + 1) (.int .i64 p.2)).take (2 * (k + 1)) = placeCells (ps.take (k + 1)) := by
  have hk := (List.getElem?_eq_some_iff.1 hp).1
  have e1 : ps.take (k + 1) = ps.take k ++ [p] := by rw [List.take_add_one, hp]; rfl
  rw [e1, placeCells_snoc, ← ht, show 2 * (k + 1) = 2 * k + 1 + 1 from by omega, List.take_add_one, List.take_add_one]
  have h1 : ((vs.set (k * 2) (.int .i64 p.1)).set (k * 2 + 1) (.int .i64 p.2)).take (2 * k) = vs.take (2 * k) := by
    rw [List.take_set_of_le (by omega), List.take_set_of_le (by omega)]
  have h2 : ((vs.set (k * 2) (.int .i64 p.1)).set (k * 2 + 1) (.int .i64 p.2))[2 * k]? = some (.int .i64 p.1) := by
    rw [List.getElem?_set_ne (by omega), show 2 * k = k * 2 from by omega, List.getElem?_set_self (by omega)]
  have h3 : ((vs.set (k * 2) (.int .i64 p.1)).set (k * 2 + 1) (.int .i64 p.2))[2 * k + 1]? = some (.int .i64 p.2) := by
    rw [show 2 * k + 1 = k * 2 + 1 from by omega, List.getElem?_set_self (by simp; omega)]
  rw [h1, h2, h3]
  simp
/-- A slice of places that came in: nil, or its cells hold them. -/
def ArgPlaces (w : World) (oa : Option Addr) (ps : List (Int × Int)) : Prop :=
  ps = [] ∨ ∃ b off, oa = some ⟨b, off, none⟩ ∧ b < w.heap.size ∧ HoldsPlaces w b off ps
theorem ArgPlaces.below {w w' : World} {oa : Option Addr} {ps : List (Int × Int)} (h : ArgPlaces w oa ps) (hb : Below w.heap.size w w') : ArgPlaces w' oa ps := by
  rcases h with h | ⟨b, off, h1, h2, h3⟩
  · exact .inl h
  · exact .inr ⟨b, off, h1, Nat.lt_of_lt_of_le h2 hb.size, h3.below hb h2⟩
/-- Two places are told to be the same exactly if they are. -/
theorem eqPlace_any (a b c d : Int) (w : World) :
    Calls Tryd.prog 81 #[.agg #[.int .i64 a, .int .i64 b], .agg #[.int .i64 c, .int .i64 d]] w fun e w' => e = .returned (.bool (decide (a = c ∧ b = d))) ∧ Below w.heap.size w w' := by
  by_cases h1 : a = c
  · by_cases h2 : b = d
    · subst h1 h2
      go_enter Tryd.func81, Tryd.ntmps81
      go_wp2
      go_ret
      exact ⟨by simp, by repeat (first | exact Below.refl _ _ | apply Below.drew | refine Below.alloc ?_ (by simp <;> omega) _)⟩
    · subst h1
      have h3 : (b == d) = false := by simpa using h2
      have H2 := Lib.hid h2
      clear h2
      go_enter Tryd.func81, Tryd.ntmps81
      go_wp2
      go_ret
      exact ⟨by simp [H2.out], by repeat (first | exact Below.refl _ _ | apply Below.drew | refine Below.alloc ?_ (by simp <;> omega) _)⟩
  · have h3 : (a == c) = false := by simpa using h1
    have H1 := Lib.hid h1
    clear h1
    go_enter Tryd.func81, Tryd.ntmps81
    go_wp2
    go_ret
    exact ⟨by simp [H1.out], by repeat (first | exact Below.refl _ _ | apply Below.drew | refine Below.alloc ?_ (by simp <;> omega) _)⟩
set_option maxRecDepth 100000 in
set_option maxHeartbeats 1600000 in
/-- Two lists of places that are the same are told to be so. -/
theorem eqPlaceS_same (ps : List (Int × Int)) (b1 o1 c1 b2 o2 c2 : Nat) (w : World) (hn : ps.length < 2 ^ 40) (h1 : b1 < w.heap.size) (h2 : b2 < w.heap.size) (k1 : HoldsPlaces w b1 o1 ps) (k2 : HoldsPlaces w b2 o2 ps) :
    Calls Tryd.prog 40 #[.slice (some ⟨b1, o1, none⟩) ps.length c1, .slice (some ⟨b2, o2, none⟩) ps.length c2] w fun e w' => e = .returned (.bool true) ∧ Below w.heap.size w w' := by
  have K1 := Lib.hid k1
  have K2 := Lib.hid k2
  clear k1 k2
  go_enter Tryd.func40, Tryd.ntmps40
  go_wp2
  go_loopw [5] (fun i wr => ∃ k : Nat, i = .int .i64 k ∧ k ≤ ps.length ∧ Below w.heap.size w wr) (fun i _ => ps.length - (intOf i).toNat)
  case atStart => exact ⟨0, rfl, Nat.zero_le _, Below.refl _ _⟩
  case round =>
    obtain ⟨k, rfl, hk, hb⟩ := hrel
    by_cases hlt : k < ps.length
    · obtain ⟨p, hp⟩ : ∃ p, ps[k]? = some p := ⟨_, List.getElem?_eq_getElem hlt⟩
      obtain ⟨a0, a1⟩ := (K1.out.below hb h1) k p hp
      obtain ⟨d0, d1⟩ := (K2.out.below hb h2) k p hp
      clear hp
      have r0 := cell_regrown a0
      have r1 := cell_regrown a1
      have r2 := cell_regrown d0
      have r3 := cell_regrown d1
      have cE : ∀ d os, Calls Tryd.prog 81 #[.agg #[.int .i64 p.1, .int .i64 p.2], .agg #[.int .i64 p.1, .int .i64 p.2]] (Sort.grow (redrawn wr d) os) fun e w'' => e = .returned (.bool true) ∧ ∃ q : Regrown, w'' = Sort.grow (redrawn wr q.d) q.os :=
        fun d os => Calls.regrown_of ((eqPlace_any p.1 p.2 p.1 p.2 _).mono fun _ _ h => by simpa using h)
      clear a0 a1 d0 d1
      go_wp2_with fail
      refine wp_region_quiet_below (by kernel_rfl) (by kernel_rfl) ?_
      repeat (quiet_step (exact cE _ _))
      refine wpQuiet_nil ?_
      intro _ hw'
      obtain ⟨⟨dq, osq⟩, hw''⟩ := hw'
      subst hw''
      have hb' := hb.trans ((below_regrown wr dq osq).mono hb.size)
      go_wp2
      go_roundw
      case rel => exact ⟨k + 1, by go_num, by omega, hb'⟩
      case measure => simp only [intOf]; omega
    · go_wp2
      go_ret
      exact ⟨rfl, hb⟩
end Go.Proofs.YtjogfagjcpcihaaDoor
namespace Go.Proofs.YtjogfagjcpcihaaDoor
open Go Go.RowKit
theorem ArgPlaces.at {w : World} {oa : Option Addr} {ps : List (Int × Int)} (h : ArgPlaces w oa ps) (hne : 0 < ps.length) : ∃ b off, oa = some ⟨b, off, none⟩ ∧ b < w.heap.size ∧ HoldsPlaces w b off ps := by
  rcases h with h | h
  · subst h; simp at hne
  · exact h
/-- Places by numbers. -/
def natPl (l : List (Nat × Nat)) : List (Int × Int) := l.map fun p => ((p.1 : Int), (p.2 : Int))
theorem natPl_length (l : List (Nat × Nat)) : (natPl l).length = l.length := by simp [natPl]
theorem natPl_snoc (l : List (Nat × Nat)) (p : Nat × Nat) : natPl (l ++ [p]) = natPl l ++ [((p.1 : Int), (p.2 : Int))] := by simp [natPl]
theorem argPlaces_of_owns {w : World} {B : Nat} {v : Value} {ps : List (Int × Int)} (h : w.ownsRow B 32 2 v ps.length (placeCells ps)) : ∃ oa cap, v = .slice oa ps.length cap ∧ ArgPlaces w oa ps := by
  obtain ⟨hl, h2 | ⟨g, cap, cur, hv, hB, hh, hn, _, hs, ht⟩⟩ := h
  · exact ⟨none, 0, by rw [h2.1, h2.2], .inl (List.eq_nil_of_length_eq_zero h2.2)⟩
  · refine ⟨_, cap, hv, .inr ⟨g, 0, rfl, (Array.getElem?_eq_some_iff.1 hh).1, fun i p hp => ?_⟩⟩
    have hil := (List.getElem?_eq_some_iff.1 hp).1
    obtain ⟨h0, h1⟩ := placeCells_at ps i p hp
    rw [← ht] at h0 h1
    rw [List.getElem?_take_of_lt (by omega)] at h0 h1
    rw [Nat.zero_add]
    constructor
    · simp [World.cell?, hh]; simpa using h0
    · simp [World.cell?, hh]; simpa using h1
set_option maxRecDepth 100000 in
theorem eqPlaceS_nil (o1 o2 : Option Addr) (c1 c2 : Nat) (w : World) :
    Calls Tryd.prog 40 #[.slice o1 0 c1, .slice o2 0 c2] w fun e w' => e = .returned (.bool true) ∧ Below w.heap.size w w' := by
  go_enter Tryd.func40, Tryd.ntmps40
  go_wp2
  go_loopw [5] (fun i wr => i = .int .i64 0 ∧ Below w.heap.size w wr) (fun _ _ => 0)
  case atStart => exact ⟨rfl, Below.refl _ _⟩
  case round =>
    obtain ⟨rfl, hb⟩ := hrel
    go_wp2
    go_ret
    exact ⟨rfl, hb⟩
theorem eqPlaceS_arg (ps : List (Int × Int)) (o1 o2 : Option Addr) (c1 c2 : Nat) (w : World) (hn : ps.length < 2 ^ 40) (k1 : ArgPlaces w o1 ps) (k2 : ArgPlaces w o2 ps) :
    Calls Tryd.prog 40 #[.slice o1 ps.length c1, .slice o2 ps.length c2] w fun e w' => e = .returned (.bool true) ∧ Below w.heap.size w w' := by
  rcases k1 with rfl | ⟨b1, f1, rfl, h1, q1⟩
  · exact eqPlaceS_nil o1 o2 c1 c2 w
  · rcases k2 with rfl | ⟨b2, f2, rfl, h2, q2⟩
    · exact eqPlaceS_nil _ o2 c1 c2 w
    · exact eqPlaceS_same ps b1 f1 c1 b2 f2 c2 w hn h1 h2 q1 q2
/-- A row of places that is the list's own. -/
def OwnPl (w : World) (B : Nat) (oa : Option Addr) (n : Nat) : Prop := n = 0 ∨ ∃ (g : Nat) (vs : List Value), oa = some ⟨g, 0, none⟩ ∧ B ≤ g ∧ Row w g 32 vs ∧ n * 2 ≤ vs.length
/-- It holds the numbers from k on. -/
def MarkedPl (w : World) (oa : Option Addr) (n : Nat) (k : Int) : Prop := n = 0 ∨ ∃ (g : Nat) (vs : List Value), oa = some ⟨g, 0, none⟩ ∧ Row w g 32 vs ∧ ∀ i, i < n → vs[i * 2]? = some (.int .i64 (k + 2 * i)) ∧ vs[i * 2 + 1]? = some (.int .i64 (k + 2 * i + 1))
theorem ownPl_of_owns {w : World} {B n : Nat} {oa : Option Addr} {cap : Nat} {xs : List Value} (h : w.ownsRow B 32 2 (.slice oa n cap) n xs) : OwnPl w B oa n := by
  obtain ⟨hl, h2 | ⟨g, cap', cur, hv, hB, hh, hn, _, hs, ht⟩⟩ := h
  · exact .inl h2.2
  · simp only [Value.slice.injEq] at hv
    obtain ⟨rfl, _, _⟩ := hv
    exact .inr ⟨g, cur.toList, rfl, hB, hh, by rw [Array.length_toList]; omega⟩
theorem OwnPl.below {w w' : World} {B n : Nat} {oa : Option Addr} (h : OwnPl w B oa n) (hb : Below w.heap.size w w') : OwnPl w' B oa n := by
  rcases h with h | ⟨g, vs, h1, h2, h3, h4⟩
  · exact .inl h
  · exact .inr ⟨g, vs, h1, h2, h3.below hb h3.lt, h4⟩
theorem MarkedPl.below {w w' : World} {n : Nat} {oa : Option Addr} {k : Int} (h : MarkedPl w oa n k) (hb : Below w.heap.size w w') : MarkedPl w' oa n k := by
  rcases h with h | ⟨g, vs, h1, h3, h4⟩
  · exact .inl h
  · exact .inr ⟨g, vs, h1, h3.below hb h3.lt, h4⟩
/-- A slice of places that was appended to by one, as the operation runs it where an order is drawn. -/
theorem infoPl : (Tryd.prog.info? 32).map (fun i => (i.zero, i.size, i.bytes)) = some (some (.agg #[.int .i64 0, .int .i64 0]), 2, 16) := infoPlace
theorem cells_new2 (w : World) (x y : Value) (t : TypeId) : ∀ (j : Nat) (u : Value), [x, y][j]? = some u → (w.alloc (.cells #[x, y] t)).cell? ((⟨w.heap.size, 0, none⟩ : Addr).add j) = some u := by
  intro j u hu
  have hR := Row.new w [x, y] t
  have h2 : (⟨w.heap.size, 0, none⟩ : Addr).add j = ⟨w.heap.size, j, none⟩ := by
    unfold Addr.add
    split <;> simp_all
  rw [h2]
  exact hR.cell hu
theorem append_place {W : World} {base k : Nat} {v : Value} {xs : List Value} (hrow : W.ownsRow base 32 2 v k xs) (x y : Int) (hk : k < 1000000) (hbase : base ≤ W.heap.size) (ty : TypeId) :
    ∃ v' w', (Builtin.append_ #[46, 46] ty #[v, .slice (some ⟨W.heap.size, 0, none⟩) 1 1]).run Tryd.prog (W.alloc (.cells #[.int .i64 x, .int .i64 y] 32)).drew = .ok v' w' ∧ w'.ownsRow base 32 2 v' (k + 1) (xs ++ [.int .i64 x, .int .i64 y]) ∧ (W.alloc (.cells #[.int .i64 x, .int .i64 y] 32)).grownBy w' v.ownBlock := by
  obtain ⟨i0, hi, hz0, hz1, hz2⟩ := info_parts infoPl
  obtain ⟨v', w', hrun, h2, h3, _, _⟩ := run_append_own_at (P := Tryd.prog) (W.alloc (.cells #[.int .i64 x, .int .i64 y] 32)).drew base 46 ty 32 i0 (.agg #[.int .i64 0, .int .i64 0]) 2 16 Tryd.underlying46 hi hz0 hz1 hz2 rfl (by decide) v k xs (hrow.alloc _).drew ⟨W.heap.size, 0, none⟩ 1 1 [.int .i64 x, .int .i64 y] rfl (cells_new2 W _ _ _)
    (by intro u hu; simp only [List.mem_cons, List.mem_nil_iff, or_false] at hu; rcases hu with rfl | rfl <;> rfl) (by unfold maxLen; omega) (by omega) (by show base ≤ (W.alloc _).heap.size; simp; omega)
  exact ⟨v', w', hrun, h2, ⟨h3.os, h3.tape, h3.output, h3.size, h3.block⟩⟩
theorem below_append2 {W w' : World} {base k n size : Nat} {e : TypeId} {v : Value} {xs : List Value} {o : Obj} (hrow : W.ownsRow base e size v k xs) (hg : (W.alloc o).grownBy w' v.ownBlock) (hb : n ≤ base) (hW : n ≤ W.heap.size) : Below n W w' := by
  refine ((Below.refl n W).alloc hW o).grown hg (by simp; omega) (fun r e => ?_)
  obtain ⟨_, h2 | ⟨g', cap, cur, hv, hB, _, _⟩⟩ := hrow
  · rw [h2.1] at e; simp [Value.ownBlock] at e
  · rw [hv] at e; simp only [Value.ownBlock, Option.some.injEq] at e; omega
/-- What a given list function of places answers, with a truth; the empty list may be one of its own. -/
def PlGot2 (ok : Prop) (l : List (Int × Int)) (w : World) (e : Ending) (w' : World) : Prop :=
  (¬ ok ∧ ∃ g, e = .returned (.tuple #[.slice (some ⟨g, 0, none⟩) 0 0, .bool false]) ∧ Below w.heap.size w w') ∨
  (ok ∧ ∃ v, e = .returned (.tuple #[v, .bool true]) ∧ w'.ownsRow w.heap.size 32 2 v l.length (placeCells l) ∧ Below w.heap.size w w')
def PlGot (ok : Prop) (l : List (Int × Int)) (w : World) (e : Ending) (w' : World) : Prop :=
  (¬ ok ∧ e = .returned (.tuple #[.slice none 0 0, .bool false]) ∧ Below w.heap.size w w') ∨
  (ok ∧ ∃ v, e = .returned (.tuple #[v, .bool true]) ∧ w'.ownsRow w.heap.size 32 2 v l.length (placeCells l) ∧ Below w.heap.size w w')
/-- What the given list functions of places leave. -/
def PlsGot (l : List (Int × Int)) (w : World) (e : Ending) (w' : World) : Prop := ∃ v, e = .returned v ∧ w'.ownsRow w.heap.size 32 2 v l.length (placeCells l) ∧ Below w.heap.size w w'
end Go.Proofs.YtjogfagjcpcihaaDoor
namespace Go.Proofs.YtjogfagjcpcihaaDoor
open Go Go.RowKit Go.Maps
/-- The item at a place. -/
def itemAtP (ss : List Sc) (a b : Int) : Option It := if 0 ≤ a ∧ 0 ≤ b then (ss[a.toNat]?).bind fun s => s.items[b.toNat]? else none
def itemHas (ss : List Sc) (a b : Int) : Prop := Valid ss ∧ (itemAtP ss a b).isSome = true
theorem itemAtP_nat {ss : List Sc} {i j : Nat} {s : Sc} (hs : ss[i]? = some s) : itemAtP ss (i : Int) (j : Int) = s.items[j]? := by
  unfold itemAtP
  rw [if_pos ⟨by omega, by omega⟩]
  simp [hs]
theorem itemAtP_out {ss : List Sc} {a b : Int} (h : inB a 0 ((ss.length : Int) - 1) = false) : itemAtP ss a b = none := by
  unfold itemAtP
  split
  · rename_i h0
    have : ¬ a ≤ (ss.length : Int) - 1 := by intro hle; simp [inB, h0.1, hle] at h
    rw [List.getElem?_eq_none (by omega)]; rfl
  · rfl
theorem itemAtP_out2 {ss : List Sc} {i : Nat} {s : Sc} {b : Int} (hs : ss[i]? = some s) (h : inB b 0 ((s.items.length : Int) - 1) = false) : itemAtP ss (i : Int) b = none := by
  unfold itemAtP
  split
  · rename_i h0
    have : ¬ b ≤ (s.items.length : Int) - 1 := by intro hle; simp [inB, h0.2, hle] at h
    simp only [Int.toNat_natCast, hs, Option.bind_some]
    rw [List.getElem?_eq_none (by omega)]
  · rfl
theorem l1In_below (n lo hi : Int) (w : World) : Calls Tryd.prog 95 #[.int .i64 n, .int .i64 lo, .int .i64 hi] w fun e w' => e = .returned (.bool (inB n lo hi)) ∧ Below w.heap.size w w' :=
  (l1In_any n lo hi w).mono fun _ _ ⟨h, k⟩ => ⟨h, by rw [k]; exact Below.refl _ _⟩
def itV (x : It) : Value := .agg #[.int .i64 x.kind, .string x.name, .int .i64 x.scope]
def zeroIt : It := ⟨0, ⟨#[]⟩, 0⟩
set_option maxRecDepth 100000 in
set_option maxHeartbeats 1000000 in
theorem specAt_any (ss : List Sc) (hf : FitsScopes ss) (oa : Option Addr) (cap : Nat) (i j : Nat) (s : Sc) (x : It) (hs : ss[i]? = some s) (hx : s.items[j]? = some x) (w : World) (hc : HoldsScopes w oa ss) :
    Calls Tryd.prog 59 #[.agg #[.slice oa ss.length cap], .agg #[.int .i64 (i : Int), .int .i64 (j : Int)]] w fun e w' => e = .returned (itV x) ∧ Below w.heap.size w w' := by
  have hi := (List.getElem?_eq_some_iff.1 hs).1
  have hj := (List.getElem?_eq_some_iff.1 hx).1
  have hl := hf.1
  have hl2 := (hf.2 s (List.mem_of_getElem? hs)).1
  have hb0 : Below w.heap.size w (((w.alloc (.cells #[.slice oa ss.length cap] 25)).alloc (.cells #[.int .i64 (i : Int), .int .i64 (j : Int)] 32)).alloc (.cells #[.int .i64 0, .string ⟨#[]⟩, .int .i64 0] 42)) := (((Below.refl _ _).alloc (Nat.le_refl _) _).alloc (by simp) _).alloc (by simp; omega) _
  obtain ⟨bb, off, rfl, hbb, hcell⟩ := hc.at (by omega)
  obtain ⟨oi, ci, a0, a1, hci⟩ := hcell i s hs
  obtain ⟨b2, o2, rfl, hb2, hcell2⟩ := hci.at (by omega)
  obtain ⟨x0, x1, x2⟩ := hcell2 j x hx
  have a1' := (hb0.cell (p := ⟨bb, off + i * 2 + 1, none⟩) hbb).trans a1
  have x0' := (hb0.cell (p := ⟨b2, o2 + j * 3, none⟩) hb2).trans x0
  have x1' := (hb0.cell (p := ⟨b2, o2 + j * 3 + 1, none⟩) hb2).trans x1
  have x2' := (hb0.cell (p := ⟨b2, o2 + j * 3 + 2, none⟩) hb2).trans x2
  have HB0 := Lib.hid hb0
  clear hf hc hcell hcell2 hci hs hx a0 a1 x0 x1 x2 hb0
  go_enter Tryd.func59, Tryd.ntmps59
  go_wp2
  go_region
  all_goals go_wp2
  refine bodyPost_ret (v := itV x) (by simp [results, Tryd.results59, go_sem, itV]) rfl ⟨rfl, ?_⟩
  first
    | exact ((((Below.refl w.heap.size w).alloc (Nat.le_refl _) _).alloc (by simp) _).alloc (by simp; omega) _).drew
    | exact HB0.out.drew.setCell (by simp) _
/-- What ItemAt answers. -/
def ItemGot (ss : List Sc) (a b : Int) (w : World) (e : Ending) (w' : World) : Prop :=
  ∃ (x : It) (ok : Bool), e = .returned (.tuple #[itV x, .bool ok]) ∧ ((Valid ss ∧ itemAtP ss a b = some x ∧ ok = true) ∨ (¬ (Valid ss ∧ (itemAtP ss a b).isSome = true) ∧ x = zeroIt ∧ ok = false)) ∧ Below w.heap.size w w'
/-- What the map of items says of a place. -/
theorem look_item {ss : List Sc} (h : Small ss) {a b : Int} (ha : (Lit.int .i64 a).wf = true) (hb : (Lit.int .i64 b).wf = true) :
    Maps.has (itemsD (placed 0 ss)) (plLit a b) = (itemAtP ss a b).isSome ∧ (itemsD (placed 0 ss)).atKey (plLit a b) (itemD zeroIt) = itemD ((itemAtP ss a b).getD zeroIt) := by
  have hh := itemsD_has h ha hb
  cases hx : itemAtP ss a b with
  | some x =>
    have hx' := hx
    unfold itemAtP at hx'
    split at hx'
    case isFalse => cases hx'
    rename_i h0
    obtain ⟨i, rfl⟩ : ∃ i : Nat, a = (i : Int) := ⟨a.toNat, by omega⟩
    obtain ⟨j, rfl⟩ : ∃ j : Nat, b = (j : Int) := ⟨b.toNat, by omega⟩
    simp only [Int.toNat_natCast] at hx'
    obtain ⟨s, hs, hj⟩ := Option.bind_eq_some_iff.1 hx'
    exact ⟨hh.2 ⟨i, j, s, x, rfl, rfl, hs, hj⟩, itemsD_at h hs hj _⟩
  | none =>
    have hno : ¬ ∃ (k j : Nat) (s : Sc) (x : It), a = (k : Int) ∧ b = (j : Int) ∧ ss[k]? = some s ∧ s.items[j]? = some x := by
      rintro ⟨k, j, s, x, rfl, rfl, hs, hj⟩
      rw [itemAtP_nat hs, hj] at hx
      cases hx
    refine ⟨by simpa using fun e => hno (hh.1 e), ?_⟩
    unfold itemsD
    rw [putInto_other plKey itVal (plLit a b) (itemD zeroIt) (placed 0 ss) (.map []) (fun q hq he => hno ?_)]
    · rfl
    · have h1 := h.lt hq
      obtain ⟨e1, e2⟩ := plLit_inj (wf_small h1.1) (wf_small h1.2) ha hb he
      obtain ⟨s, _, h2, h3⟩ := mem_placed.1 hq
      exact ⟨q.1, q.2.1, s, q.2.2, e1.symm, e2.symm, by simpa using h2, h3⟩
theorem itemR_eq {v : Value} {x : It} {ps : List MemPlace} (h : itemR v = some (itemD x, ps)) : v = itV x := by
  unfold itemR at h
  split at h
  · split at h
    · rename_i cs _ a s b he
      have hcs : cs = #[.int .i64 a, .string s, .int .i64 b] := by rw [← he]
      simp only [itemD, Option.some.injEq, Prod.mk.injEq, DataW.agg.injEq, List.cons.injEq, DataW.lit.injEq, Lit.int.injEq, Lit.string.injEq, true_and, and_true] at h
      obtain ⟨⟨h1, h2, h3⟩, _⟩ := h
      have hs : s = x.name := by apply ByteArray.ext; exact Array.toList_inj.1 h2
      rw [hcs, h1, hs, h3]; rfl
    · cases h
  · cases h
theorem zeroItem (w : World) : (zeroValue 42).run Tryd.prog w = .ok (itV zeroIt) w := by kernel_rfl
set_option maxRecDepth 100000 in
set_option maxHeartbeats 1600000 in
theorem implItemAt_any (ss : List Sc) (hF : Fair ss) (oa : Option Addr) (cap : Nat) (a b : Int) (ha : (Lit.int .i64 a).wf = true) (hb' : (Lit.int .i64 b).wf = true) (w : World) (hc : HoldsScopes w oa ss) (hE : TreeErrs w) :
    Calls Tryd.prog 20 #[.agg #[.slice oa ss.length cap], .agg #[.int .i64 a, .int .i64 b]] w (ItemGot ss a b w) := by
  have hb0 : Below w.heap.size w (((w.alloc (.cells #[.slice oa ss.length cap] 25)).alloc (.cells #[.int .i64 a, .int .i64 b] 32)).alloc (.cells #[.int .i64 0, .string ⟨#[]⟩, .int .i64 0] 42)) := (((Below.refl _ _).alloc (Nat.le_refl _) _).alloc (by simp) _).alloc (by simp; omega) _
  have C := Lib.hid (hF.tree oa cap _ (hc.below hb0 (Nat.le_refl _)) (hE.below hb0 hE.size))
  have HB0 := Lib.hid hb0
  have RP : Hid (Row (((w.alloc (.cells #[.slice oa ss.length cap] 25)).alloc (.cells #[.int .i64 a, .int .i64 b] 32)).alloc (.cells #[.int .i64 0, .string ⟨#[]⟩, .int .i64 0] 42)) (w.heap.size + 1) 32 [.int .i64 a, .int .i64 b]) := Lib.hid (by
    have := (Row.new (w.alloc (.cells #[.slice oa ss.length cap] 25)) [.int .i64 a, .int .i64 b] 32).alloc (.cells #[.int .i64 0, .string ⟨#[]⟩, .int .i64 0] 42)
    rw [World.size_alloc] at this
    exact this)
  have RR : Hid (Row (((w.alloc (.cells #[.slice oa ss.length cap] 25)).alloc (.cells #[.int .i64 a, .int .i64 b] 32)).alloc (.cells #[.int .i64 0, .string ⟨#[]⟩, .int .i64 0] 42)) (w.heap.size + 2) 42 [.int .i64 0, .string ⟨#[]⟩, .int .i64 0]) := Lib.hid (by
    have := Row.new ((w.alloc (.cells #[.slice oa ss.length cap] 25)).alloc (.cells #[.int .i64 a, .int .i64 b] 32)) [.int .i64 0, .string ⟨#[]⟩, .int .i64 0] 42
    simp only [World.size_alloc] at this
    exact this)
  have HWF := Lib.hid (And.intro ha hb')
  clear hF hc hE hb0 ha hb'
  go_enter Tryd.func20, Tryd.ntmps20
  go_wp2_with fail
  refine C.out.mono ?_
  rintro e w1 (⟨hv, ⟨tp, p, rfl⟩, hb⟩ | ⟨hv, T, M1, M2, v, ds, rfl, hb, hT⟩)
  · have HB := Lib.hid (HB0.out.trans (hb.mono HB0.out.size))
    have RR1 := Lib.hid (RR.out.below hb RR.out.lt)
    have HN : Hid (¬ (Valid ss ∧ (itemAtP ss a b).isSome = true)) := Lib.hid (fun h => hv h.1)
    have r0 : w1.cell? ⟨w.heap.size + 1 + 1, 0, none⟩ = some (.int .i64 0) := RR1.out.cell (i := 0) (by rfl)
    have r1 : w1.cell? ⟨w.heap.size + 1 + 1, 1, none⟩ = some (.string ⟨#[]⟩) := RR1.out.cell (i := 1) (by rfl)
    have r2 : w1.cell? ⟨w.heap.size + 1 + 1, 2, none⟩ = some (.int .i64 0) := RR1.out.cell (i := 2) (by rfl)
    have f0 : ∀ k, w1.frozen? ⟨w.heap.size + 1 + 1, k, none⟩ = false := fun k => RR1.out.frozen k
    clear hv hb
    go_wp2
    refine bodyPost_ret (v := .tuple #[itV zeroIt, .bool false]) (by simp [results, Tryd.results20, go_sem, itV, zeroIt, r0, r1, r2]) rfl ⟨zeroIt, false, rfl, .inr ⟨HN.out, rfl, rfl⟩, ?_⟩
    exact ((HB.out.setCell (by simp; omega) _).setCell (by simp; omega) _).setCell (by simp; omega) _
  · have HB := Lib.hid (HB0.out.trans (hb.mono HB0.out.size))
    have RR1 := Lib.hid (RR.out.below hb RR.out.lt)
    have RP1 := Lib.hid (RP.out.below hb RP.out.lt)
    obtain ⟨hhas, hat⟩ := look_item hv.small HWF.out.1 HWF.out.2
    obtain ⟨n1, hm⟩ := hT.items
    obtain ⟨v1, ps, hrun, hv1⟩ := (ownsMap_below hm ((Below.refl _ _).drew)).look_ok (t := 86) (e := 42) placeLaw Tryd.underlying86 (zeroItem _) (itemR_mk zeroIt) (pl_key HWF.out.1 HWF.out.2)
    have hbA := ((Below.refl w1.heap.size w1).alloc (Nat.le_refl _) (.cells #[.int .i64 0, .string ⟨#[]⟩, .int .i64 0] 42)).drew
    obtain ⟨v2, ps2, hrun2, hv2⟩ := (ownsMap_below hm hbA).look_ok (t := 86) (e := 42) placeLaw Tryd.underlying86 (zeroItem _) (itemR_mk zeroIt) (pl_key HWF.out.1 HWF.out.2)
    rw [hat] at hv1 hv2
    obtain rfl := itemR_eq hv1
    obtain rfl := itemR_eq hv2
    rw [hhas] at hrun hrun2
    have T1 := hT.tree.box
    have t1 := T1.cell (i := 1) (by rfl)
    have t1' := (((Below.refl _ _).drew).cell (p := ⟨T, 1, none⟩) T1.lt).trans t1
    have t1A := (hbA.cell (p := ⟨T, 1, none⟩) T1.lt).trans t1
    have p0 := RP1.out.cell (i := 0) (by rfl)
    have p1 := RP1.out.cell (i := 1) (by rfl)
    have p0A := (hbA.cell (p := ⟨w.heap.size + 1, 0, none⟩) RP1.out.lt).trans p0
    have p1A := (hbA.cell (p := ⟨w.heap.size + 1, 1, none⟩) RP1.out.lt).trans p1
    have HV := Lib.hid hv
    have hres : Hid ((Valid ss ∧ itemAtP ss a b = some ((itemAtP ss a b).getD zeroIt) ∧ (itemAtP ss a b).isSome = true) ∨ (¬ (Valid ss ∧ (itemAtP ss a b).isSome = true) ∧ (itemAtP ss a b).getD zeroIt = zeroIt ∧ (itemAtP ss a b).isSome = false)) := Lib.hid (by
      cases hx : itemAtP ss a b with
      | none => exact .inr ⟨(fun h => by cases h.2), rfl, rfl⟩
      | some x => exact .inl ⟨hv, rfl, rfl⟩)
    clear hb hhas hat hv1 hv2 hT hm hbA T1 hv
    generalize hq : (itemAtP ss a b).isSome = ok at hrun hrun2
    generalize hq2 : (itemAtP ss a b).getD zeroIt = x at hrun hrun2
    have HQ := Lib.hid (And.intro hq hq2)
    clear hq hq2
    unfold itV at hrun hrun2
    go_wp2
    go_cut [8, 9] (fun s8 s9 wx => s9 = .bool ok ∧ ∃ g, s8 = .pointer (some ⟨g, 0, none⟩) ∧ w1.heap.size ≤ g ∧ Row wx g 42 [.int .i64 x.kind, .string x.name, .int .i64 x.scope] ∧ Below w1.heap.size w1 wx)
    case first =>
      go_region
      all_goals go_wp2
      all_goals go_meet
      all_goals exact ⟨rfl, _, rfl, Nat.le_refl _, Row.new w1 [.int .i64 x.kind, .string x.name, .int .i64 x.scope] 42, ((Below.refl _ _).alloc (Nat.le_refl _) _).drew⟩
    case rest =>
      obtain ⟨rfl, g, rfl, hg, hrow, hbc⟩ := hcut
      have HBC := Lib.hid (HB.out.trans (hbc.mono HB.out.size))
      have RR2 := Lib.hid (RR1.out.below hbc RR1.out.lt)
      have k0 := hrow.cell (i := 0) (by rfl)
      have k1 := hrow.cell (i := 1) (by rfl)
      have k2 := hrow.cell (i := 2) (by rfl)
      have r0 : wc.cell? ⟨w.heap.size + 1 + 1, 0, none⟩ = some (.int .i64 0) := RR2.out.cell (i := 0) (by rfl)
      have r1 : wc.cell? ⟨w.heap.size + 1 + 1, 1, none⟩ = some (.string ⟨#[]⟩) := RR2.out.cell (i := 1) (by rfl)
      have r2 : wc.cell? ⟨w.heap.size + 1 + 1, 2, none⟩ = some (.int .i64 0) := RR2.out.cell (i := 2) (by rfl)
      have f0 : ∀ k, wc.frozen? ⟨w.heap.size + 1 + 1, k, none⟩ = false := fun k => RR2.out.frozen k
      clear hrun hrun2 t1 t1' t1A p0 p1 p0A p1A hrow hbc
      go_wp2
      refine bodyPost_ret (v := .tuple #[itV x, .bool ok]) (by simp [results, Tryd.results20, go_sem, itV, r0, r1, r2]) rfl ⟨x, ok, rfl, by rw [← HQ.out.1, ← HQ.out.2]; exact hres.out, ?_⟩
      exact ((HBC.out.setCell (by simp; omega) _).setCell (by simp; omega) _).setCell (by simp; omega) _
end Go.Proofs.YtjogfagjcpcihaaDoor
namespace Go.Proofs.YtjogfagjcpcihaaDoor
open Go Go.RowKit
/-- The copy of a graph, as the laws make it. -/
theorem toGraph_holds {ss : List Sc} (hF : Fair ss) {w0 : World} (oa : Option Addr) (cap : Nat) (hc : HoldsScopes w0 oa ss) {w : World} (hb : Below w0.heap.size w0 w) :
    Calls Tryd.prog 43 #[.agg #[.slice oa ss.length cap]] w fun e w' => ∃ g, e = .returned (.agg #[.slice (some ⟨g, 0, none⟩) ss.length ss.length]) ∧ HoldsScopes w' (some ⟨g, 0, none⟩) ss ∧ Below w.heap.size w w' :=
  (toGraph_any ss oa cap w hF.count hF.items (hc.below hb (Nat.le_refl _))).mono fun _ _ ⟨g, _, h1, _, _, h4, h5, h6⟩ => ⟨g, h1, h5.holds h4, h6⟩
theorem eqGraph_fair {ss : List Sc} (hF : Fair ss) {w1 w2 : World} {o1 o2 : Option Addr} {c1 c2 : Nat} {w : World} (h1 : HoldsScopes w1 o1 ss) (h2 : HoldsScopes w2 o2 ss) (hb1 : Below w1.heap.size w1 w) (hb2 : Below w2.heap.size w2 w) :
    Calls Tryd.prog 45 #[.agg #[.slice o1 ss.length c1], .agg #[.slice o2 ss.length c2]] w fun e w' => e = .returned (.bool true) ∧ Below w.heap.size w w' :=
  eqGraph_same ss o1 o2 c1 c2 w (by have := hF.count; omega) (fun s hs => by have := hF.items s hs; omega) (h1.below hb1 (Nat.le_refl _)) (h2.below hb2 (Nat.le_refl _))
theorem TreeErrs.at {w w' : World} (h : TreeErrs w) (hb : Below w.heap.size w w') : TreeErrs w' := h.below hb h.size
theorem belowS {w w1 w2 : World} (h : Below w.heap.size w w1) (k : Below w1.heap.size w1 w2) : Below w.heap.size w w2 := h.trans (k.mono h.size)
end Go.Proofs.YtjogfagjcpcihaaDoor
namespace Go.Proofs.YtjogfagjcpcihaaDoor
open Go Go.RowKit
theorem numList_of_owns {w : World} {B : Nat} {v : Value} {l : List Nat} (h : w.ownsRow B 3 1 v l.length (numVals l)) : ∃ oa cap, v = .slice oa (natInts l).length cap ∧ HoldsInts w oa (natInts l) ∧ OwnInts w B oa (natInts l).length := by
  have hl : (natInts l).length = l.length := by simp [natInts]
  obtain ⟨oa, cap, rfl, hh⟩ := holdsInts_of_owns h
  rw [hl] at h ⊢
  exact ⟨oa, cap, rfl, hh, ownInts_of_owns h⟩
/-- What both answer: the list and the truth, by the same rule. -/
def listVal (ok : Prop) (l : List Nat) (xs : List Int) (b : Bool) : Prop := (¬ ok ∧ xs = [] ∧ b = false) ∨ (ok ∧ xs = natInts l ∧ b = true)
theorem ListGot2.val {ok : Prop} {l : List Nat} {w w' : World} {e : Ending} (h : ListGot2 ok l w e w') : ∃ oa cap xs b, e = .returned (.tuple #[.slice oa xs.length cap, .bool b]) ∧ listVal ok l xs b ∧ HoldsInts w' oa xs ∧ Below w.heap.size w w' := by
  rcases h with ⟨h1, g, rfl, hb⟩ | ⟨h1, v, rfl, hr, hb⟩
  · exact ⟨_, 0, [], false, rfl, .inl ⟨h1, rfl, rfl⟩, .inl rfl, hb⟩
  · obtain ⟨oa, cap, rfl, hh, _⟩ := numList_of_owns hr
    exact ⟨oa, cap, _, true, rfl, .inr ⟨h1, rfl, rfl⟩, hh, hb⟩
theorem ListGot.val {ok : Prop} {l : List Nat} {w w' : World} {e : Ending} (h : ListGot ok l w e w') : ∃ oa cap xs b, e = .returned (.tuple #[.slice oa xs.length cap, .bool b]) ∧ listVal ok l xs b ∧ HoldsInts w' oa xs ∧ OwnInts w' w.heap.size oa xs.length ∧ Below w.heap.size w w' := by
  rcases h with ⟨h1, rfl, hb⟩ | ⟨h1, v, rfl, hr, hb⟩
  · exact ⟨none, 0, [], false, rfl, .inl ⟨h1, rfl, rfl⟩, .inl rfl, .inl rfl, hb⟩
  · obtain ⟨oa, cap, rfl, hh, ho⟩ := numList_of_owns hr
    exact ⟨oa, cap, _, true, rfl, .inr ⟨h1, rfl, rfl⟩, hh, ho, hb⟩
theorem listVal.same {ok : Prop} {l : List Nat} {xs ys : List Int} {b c : Bool} (h : listVal ok l xs b) (k : listVal ok l ys c) : xs = ys ∧ b = c := by
  rcases h with ⟨h1, h2, h3⟩ | ⟨h1, h2, h3⟩ <;> rcases k with ⟨k1, k2, k3⟩ | ⟨k1, k2, k3⟩
  · exact ⟨by rw [h2, k2], by rw [h3, k3]⟩
  · exact absurd k1 h1
  · exact absurd h1 k1
  · exact ⟨by rw [h2, k2], by rw [h3, k3]⟩
theorem listVal.small {ok : Prop} {l : List Nat} {xs : List Int} {b : Bool} (h : listVal ok l xs b) (hl : ok → l.length ≤ 6) : xs.length ≤ 6 := by
  rcases h with ⟨_, h2, _⟩ | ⟨h1, h2, _⟩
  · rw [h2]; simp
  · rw [h2]
    have := hl h1
    simp [natInts]
    omega
/-- Lists lie where no block of a graph of one's own lies. -/
theorem HoldsInts.mid {b0 b1 : Nat} {w w1 w' : World} {oa : Option Addr} {xs : List Int} (h : HoldsInts w oa xs) (hw : w.heap.size ≤ b0) (hb : Below w.heap.size w w1) (hm : Mid b0 b1 w1 w') : HoldsInts w' oa xs := by
  have h1 := h.below hb
  rcases h with h | ⟨b, off, q1, q2, q3⟩
  · exact .inl h
  · rcases h1 with h1 | ⟨b', off', p1, p2, p3⟩
    · exact .inl h1
    · rw [q1] at p1
      cases p1
      refine .inr ⟨b, off, q1, Nat.lt_of_lt_of_le p2 hm.size, fun i x hx => ?_⟩
      exact (World.cell?_of_block (hm.rest b p2 (.inl (by omega)))).trans (p3 i x hx)
theorem OwnInts.mid {b0 b1 B n : Nat} {w w' : World} {oa : Option Addr} (h : OwnInts w B oa n) (hB : b1 ≤ B) (hm : Mid b0 b1 w w') : OwnInts w' B oa n := by
  rcases h with h | ⟨g, vs, q1, q2, q3, q4⟩
  · exact .inl h
  · exact .inr ⟨g, vs, q1, q2, hm.row q3 (.inr (by omega)), q4⟩
theorem HoldsInts.mid_own {b0 b1 B : Nat} {w w' : World} {oa : Option Addr} {xs : List Int} (h : HoldsInts w oa xs) (ho : OwnInts w B oa xs.length) (hB : b1 ≤ B) (hm : Mid b0 b1 w w') : HoldsInts w' oa xs := by
  rcases h with h | ⟨b, off, q1, q2, q3⟩
  · exact .inl h
  · rcases ho with h0 | ⟨g, vs, p1, p2, p3, p4⟩
    · exact .inl (List.eq_nil_of_length_eq_zero h0)
    · rw [p1] at q1
      cases q1
      refine .inr ⟨_, 0, p1, Nat.lt_of_lt_of_le q2 hm.size, fun i x hx => ?_⟩
      exact (World.cell?_of_block (hm.rest _ q2 (.inr (Nat.le_trans hB p2)))).trans (q3 i x hx)
theorem belowN {N : Nat} {a b c : World} (h : Below N a b) (k : Below b.heap.size b c) (hN : N ≤ a.heap.size) : Below N a c := h.trans (k.mono (Nat.le_trans hN h.size))
end Go.Proofs.YtjogfagjcpcihaaDoor
namespace Go.Proofs.YtjogfagjcpcihaaDoor
open Go Go.RowKit
/-- What both answer: the list and the truth, by the same rule. -/
def plVal (ok : Prop) (l : List (Int × Int)) (xs : List (Int × Int)) (b : Bool) : Prop := (¬ ok ∧ xs = [] ∧ b = false) ∨ (ok ∧ xs = l ∧ b = true)
theorem PlGot2.val {ok : Prop} {l : List (Int × Int)} {w w' : World} {e : Ending} (h : PlGot2 ok l w e w') : ∃ oa cap xs b, e = .returned (.tuple #[.slice oa xs.length cap, .bool b]) ∧ plVal ok l xs b ∧ ArgPlaces w' oa xs ∧ Below w.heap.size w w' := by
  rcases h with ⟨h1, g, rfl, hb⟩ | ⟨h1, v, rfl, hr, hb⟩
  · exact ⟨_, 0, [], false, rfl, .inl ⟨h1, rfl, rfl⟩, .inl rfl, hb⟩
  · obtain ⟨oa, cap, rfl, hh⟩ := argPlaces_of_owns hr
    exact ⟨oa, cap, _, true, rfl, .inr ⟨h1, rfl, rfl⟩, hh, hb⟩
theorem PlGot.val {ok : Prop} {l : List (Int × Int)} {w w' : World} {e : Ending} (h : PlGot ok l w e w') : ∃ oa cap xs b, e = .returned (.tuple #[.slice oa xs.length cap, .bool b]) ∧ plVal ok l xs b ∧ ArgPlaces w' oa xs ∧ OwnPl w' w.heap.size oa xs.length ∧ Below w.heap.size w w' := by
  rcases h with ⟨h1, rfl, hb⟩ | ⟨h1, v, rfl, hr, hb⟩
  · exact ⟨none, 0, [], false, rfl, .inl ⟨h1, rfl, rfl⟩, .inl rfl, .inl rfl, hb⟩
  · obtain ⟨oa, cap, rfl, hh⟩ := argPlaces_of_owns hr
    exact ⟨oa, cap, _, true, rfl, .inr ⟨h1, rfl, rfl⟩, hh, ownPl_of_owns hr, hb⟩
theorem plVal.same {ok : Prop} {l : List (Int × Int)} {xs ys : List (Int × Int)} {b c : Bool} (h : plVal ok l xs b) (k : plVal ok l ys c) : xs = ys ∧ b = c := by
  rcases h with ⟨h1, h2, h3⟩ | ⟨h1, h2, h3⟩ <;> rcases k with ⟨k1, k2, k3⟩ | ⟨k1, k2, k3⟩
  · exact ⟨by rw [h2, k2], by rw [h3, k3]⟩
  · exact absurd k1 h1
  · exact absurd h1 k1
  · exact ⟨by rw [h2, k2], by rw [h3, k3]⟩
theorem plVal.small {ok : Prop} {l : List (Int × Int)} {xs : List (Int × Int)} {b : Bool} (h : plVal ok l xs b) (hl : ok → l.length ≤ 1000) : xs.length ≤ 1000 := by
  rcases h with ⟨_, h2, _⟩ | ⟨h1, h2, _⟩
  · rw [h2]; simp
  · rw [h2]; exact hl h1
theorem ArgPlaces.mid_own {b0 b1 B : Nat} {w w' : World} {oa : Option Addr} {xs : List (Int × Int)} (h : ArgPlaces w oa xs) (ho : OwnPl w B oa xs.length) (hB : b1 ≤ B) (hm : Mid b0 b1 w w') : ArgPlaces w' oa xs := by
  rcases h with h | ⟨b, off, q1, q2, q3⟩
  · exact .inl h
  · rcases ho with h0 | ⟨g, vs, p1, p2, p3, p4⟩
    · exact .inl (List.eq_nil_of_length_eq_zero h0)
    · rw [p1] at q1
      cases q1
      refine .inr ⟨_, 0, p1, Nat.lt_of_lt_of_le q2 hm.size, fun i x hx => ?_⟩
      exact ⟨(World.cell?_of_block (hm.rest _ q2 (.inr (Nat.le_trans hB p2)))).trans (q3 i x hx).1, (World.cell?_of_block (hm.rest _ q2 (.inr (Nat.le_trans hB p2)))).trans (q3 i x hx).2⟩
theorem OwnPl.mid {b0 b1 B n : Nat} {w w' : World} {oa : Option Addr} (h : OwnPl w B oa n) (hB : b1 ≤ B) (hm : Mid b0 b1 w w') : OwnPl w' B oa n := by
  rcases h with h | ⟨g, vs, q1, q2, q3, q4⟩
  · exact .inl h
  · exact .inr ⟨g, vs, q1, q2, hm.row q3 (.inr (by omega)), q4⟩
end Go.Proofs.YtjogfagjcpcihaaDoor
