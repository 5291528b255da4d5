/-
  Chains of scopes, what lies within a scope, the innermost scope around two, modules of scopes, blocks, paths, as plain data. Plain facts. The contract of the iterator from a node outwards (impl's (*node).outward): the scope itself and all around it, whatever the loop's body does, as long as it leaves the cells that were there. The walks of impl's (*tree).node and nodeOf. Conditions: the argument's memory holds the graph; the package-level errors hold errors. The walk of impl's ChainOf: a scope and all around it, in a list of its own. Conditions: the argument's memory holds the graph; the package-level errors hold errors. The walks of the given l2Scope, l2Chain, ChainOf and ScopeDepth. Condition: the argument's memory holds the graph. The walks of the laws' eqIntS, markIntS, heldIntS: lists of numbers compared, marked, and found marked. Condition: the lists' memory is their own. The walk of the laws' markText: a short text comes back, and only new memory is written. Plain facts. The walks of the laws' markItemS, markScopeS, markGraph over a graph of one's own: a number from 0 on comes back, and no block turns but those of the graph. Plain facts. The walks of the laws' toPlace, eqPlace, eqPlaceS; lists of places in memory. Condition: the list has at most 2^20 places. The walks of the laws' eqPlaceS, markPlaceS, heldPlaceS: lists of places compared, marked, and found marked. Condition: the lists' memory is their own. What the walks of the exact laws over graphs share: the copies of a graph, their comparison, errors carried along. Plain facts. What the walks of the exact laws with a list of numbers and a truth share. Plain facts. What the walks of the exact laws with a list of places and a truth share. Plain facts. The walks of the given l1Has, l1At and ItemAt, and of impl's ItemAt. Conditions: the argument's memory holds the graph; the package-level errors hold errors. What the walks of the exact laws with an answer without memory of its own share. Plain facts.
-/
import Derived.Test.YtgehpaojbnpbcaaGreatDoorBaseZ
import Derived.Test.YtgehpaojbnpbcaaGreatDoorTreeOfZ
import Derived.Test.YtgehpaojbnpbcaaGreatDoorWTreeOfZ
import Derived.Test.YtgehpaojbnpbcaaGreatDoorWImplValidZ
import Derived.Maps.AppendAt
import Derived.RangeFuncBox
import Derived.Test.YtgehpaojbnpbcaaGreatDoorWSpecValidZ
import Derived.Laws.BytesArg
import Derived.Lib.ItoaLen
import Derived.Test.YtgehpaojbnpbcaaGreatDoorWEqZ
import Derived.Test.YtgehpaojbnpbcaaGreatDoorPlacedZ
import Derived.Test.YtgehpaojbnpbcaaGreatDoorProg
import Derived.Lib.Hide
import Derived.Outline
import Derived.Deep.DeepCutAuto
import Derived.Deep.QuietTactic
import Derived.BigQuiet
import Derived.Lib.QuietBelow
import Derived.Deep.RegionWith
import Derived.IntWalk
namespace Go.Proofs.YtgehpaojbnpbcaaGreatDoor
open Go Go.RowKit
/-- Each scope has an earlier one as its parent, the first one none. -/
def Climbs (ss : List Sc) : Prop := ∀ i s, ss[i]? = some s → scopeB i s = true
theorem Valid.climbs {ss : List Sc} (h : Valid ss) : Climbs ss := h.scopes
/-- The parent of a scope, if it has one. -/
def parP (ss : List Sc) (s : Nat) : Option Nat := match ss[s]? with
  | some c => if c.parent < 0 then none else some c.parent.toNat
  | none => none
def chainN (ss : List Sc) : Nat → Nat → List Nat
  | 0, _ => []
  | n + 1, s => s :: (match parP ss s with | some p => chainN ss n p | none => [])
/-- A scope and all around it, from the inside to the outside. -/
def chainP (ss : List Sc) (s : Nat) : List Nat := chainN ss (s + 1) s
theorem Climbs.par {ss : List Sc} (h : Climbs ss) {s p : Nat} (hp : parP ss s = some p) : p < s := by
  unfold parP at hp
  split at hp
  · rename_i c hc
    split at hp
    · cases hp
    · cases hp
      rcases scope_parent (h s c hc) with ⟨_, h1⟩ | ⟨q, h1, hlt⟩ <;> omega
  · cases hp
theorem par_of {ss : List Sc} {s p : Nat} {c : Sc} (hc : ss[s]? = some c) (hp : c.parent = (p : Int)) : parP ss s = some p := by
  unfold parP; simp only [hc]; rw [if_neg (by omega), hp]; simp
theorem par_none {ss : List Sc} {s : Nat} {c : Sc} (hc : ss[s]? = some c) (hp : c.parent < 0) : parP ss s = none := by
  unfold parP; simp only [hc]; rw [if_pos hp]
theorem Climbs.cases {ss : List Sc} (h : Climbs ss) {s : Nat} {c : Sc} (hc : ss[s]? = some c) : (s = 0 ∧ c.parent = -1 ∧ parP ss s = none) ∨ (∃ p : Nat, c.parent = (p : Int) ∧ p < s ∧ parP ss s = some p) := by
  rcases scope_parent (h s c hc) with ⟨h0, h1⟩ | ⟨p, h1, hlt⟩
  · exact .inl ⟨h0, h1, par_none hc (by omega)⟩
  · exact .inr ⟨p, h1, hlt, par_of hc h1⟩
theorem chainN_more {ss : List Sc} (h : Climbs ss) : ∀ (s n m : Nat), s < n → s < m → chainN ss n s = chainN ss m s := by
  intro s
  induction s using Nat.strongRecOn with
  | _ s ih =>
    intro n m hn hm
    obtain ⟨n, rfl⟩ : ∃ k, n = k + 1 := ⟨n - 1, by omega⟩
    obtain ⟨m, rfl⟩ : ∃ k, m = k + 1 := ⟨m - 1, by omega⟩
    unfold chainN
    cases e : parP ss s with
    | none => rfl
    | some p =>
      have := h.par e
      simp only
      rw [ih p this n m (by omega) (by omega)]
theorem chain_none {ss : List Sc} {s : Nat} (e : parP ss s = none) : chainP ss s = [s] := by
  unfold chainP chainN; rw [e]
theorem chain_some {ss : List Sc} (h : Climbs ss) {s p : Nat} (e : parP ss s = some p) : chainP ss s = s :: chainP ss p := by
  have hlt := h.par e
  unfold chainP
  rw [show chainN ss (s + 1) s = s :: chainN ss s p from by conv => lhs; unfold chainN; rw [e]]
  rw [chainN_more h p s (p + 1) hlt (by omega)]
theorem chain_head (ss : List Sc) (s : Nat) : ∃ t, chainP ss s = s :: t := by
  unfold chainP chainN; exact ⟨_, rfl⟩
theorem chain_le {ss : List Sc} (h : Climbs ss) : ∀ (s m : Nat), m ∈ chainP ss s → m ≤ s := by
  intro s
  induction s using Nat.strongRecOn with
  | _ s ih =>
    intro m hm
    cases e : parP ss s with
    | none => rw [chain_none e] at hm; simp at hm; omega
    | some p =>
      have := h.par e
      rw [chain_some h e] at hm
      rcases List.mem_cons.1 hm with rfl | hm
      · exact Nat.le_refl _
      · have := ih p this m hm; omega
theorem chain_length {ss : List Sc} (h : Climbs ss) : ∀ s : Nat, (chainP ss s).length ≤ s + 1 := by
  intro s
  induction s using Nat.strongRecOn with
  | _ s ih =>
    cases e : parP ss s with
    | none => rw [chain_none e]; simp
    | some p =>
      have := h.par e
      rw [chain_some h e]
      have := ih p this
      simp only [List.length_cons]; omega
end Go.Proofs.YtgehpaojbnpbcaaGreatDoor
namespace Go.Proofs.YtgehpaojbnpbcaaGreatDoor
open Go Go.RowKit Go.Maps
attribute [local go_sem] Oper.semAt_some
def ndArgs (d : Nd) : Array Value := #[.pointer (some ⟨d.blk, 0, none⟩)]
/-- How far out a pointer may still lead. -/
def rank (ds : List Nd) : Value → Nat
  | .pointer (some a) => (ds.map Nd.blk).idxOf a.block + 1
  | _ => 0
theorem idx_of : ∀ {l : List Nat} {i x : Nat}, l.Nodup → l[i]? = some x → l.idxOf x = i
  | y :: r, 0, x, _, h => by simp at h; subst h; simp
  | y :: r, i + 1, x, hn, h => by
    rw [List.nodup_cons] at hn
    have h' : r[i]? = some x := by simpa using h
    have hne : y ≠ x := by rintro rfl; exact hn.1 (List.mem_of_getElem? h')
    have hb : (y == x) = false := by simpa using hne
    rw [List.idxOf_cons, hb, cond_false, idx_of hn.2 h']
theorem rank_of {ds : List Nd} (h : (ds.map Nd.blk).Nodup) {i : Nat} {d : Nd} (hd : ds[i]? = some d) : rank ds (.pointer (some ⟨d.blk, 0, none⟩)) = i + 1 := by
  show (ds.map Nd.blk).idxOf d.blk + 1 = i + 1
  rw [idx_of h (i := i) (by rw [List.getElem?_map, hd]; rfl)]
theorem par_ptr {ds : List Nd} {ss : List Sc} (hP : Pars ds ss) (hC : Climbs ss) (hl : ds.length = ss.length) {i : Nat} {d : Nd} (hd : ds[i]? = some d) :
    (parP ss i = none ∧ d.par = none) ∨ ∃ p e, parP ss i = some p ∧ p < i ∧ ds[p]? = some e ∧ d.par = some ⟨e.blk, 0, none⟩ := by
  have hi := (List.getElem?_eq_some_iff.1 hd).1
  obtain ⟨c, hc⟩ : ∃ c, ss[i]? = some c := ⟨_, List.getElem?_eq_getElem (by omega)⟩
  have hp := hP i d c hd hc
  unfold newPar at hp
  rcases hC.cases hc with ⟨_, h1, h2⟩ | ⟨p, h1, hlt, h2⟩
  · rw [if_pos h1] at hp; exact .inl ⟨h2, hp⟩
  · obtain ⟨e, he⟩ : ∃ e, ds[p]? = some e := ⟨_, List.getElem?_eq_getElem (by omega)⟩
    rw [if_neg (by omega), h1, Int.toNat_natCast, he] at hp
    exact .inr ⟨p, e, h2, hlt, he, hp⟩
theorem chain_bound {ss : List Sc} (h : Climbs ss) {s : Nat} (hs : s < ss.length) : (chainP ss s).length ≤ ss.length := by have := chain_length h s; omega
theorem outward_any (p : Option Addr) (w : World) :
    Calls Tryz.prog 128 #[.pointer p] w fun e w' => e = .returned (.func (.func 134) #[] #[.pointer (some ⟨w.heap.size, 0, none⟩)]) ∧ w' = w.alloc (.cells #[.pointer p] 191) := by
  go_enter Tryz.func128, Tryz.ntmps128
  go_wp2
  go_ret
  exact ⟨rfl, rfl⟩
end Go.Proofs.YtgehpaojbnpbcaaGreatDoor
namespace Go.Proofs.YtgehpaojbnpbcaaGreatDoor
open Go Go.RowKit Go.Maps
theorem TreeIs.below {w w' : World} {B T M1 M2 : Nat} {v : Value} {ds : List Nd} {ss : List Sc} (h : TreeIs w B T M1 M2 v ds ss) (hb : Below w.heap.size w w') : TreeIs w' B T M1 M2 v ds ss where
  tree := h.tree.below hb (Nat.le_refl _)
  hold := h.hold.below hb (Nat.le_refl _)
  pars := h.pars
  items := by obtain ⟨n, h1⟩ := h.items; exact ⟨n, ownsMap_below h1 hb⟩
  mods := by obtain ⟨n, h1⟩ := h.mods; exact ⟨n, ownsMap_below h1 hb⟩
  low1 := h.low1
  low2 := h.low2
theorem TreeIs.ne {w : World} {B T M1 M2 : Nat} {v : Value} {ds : List Nd} {ss : List Sc} (h : TreeIs w B T M1 M2 v ds ss) (hv : Valid ss) : ds ≠ [] := fun e => by
  have h1 := h.hold.len
  have h2 := hv.count
  rw [e, List.length_nil] at h1
  omega
end Go.Proofs.YtgehpaojbnpbcaaGreatDoor
namespace Go.Proofs.YtgehpaojbnpbcaaGreatDoor
open Go Go.RowKit Go.Maps
attribute [local go_sem] Oper.semAt_some
theorem infoInt : (Tryz.prog.info? 3).map (fun i => (i.zero, i.size, i.bytes)) = some (some (.int .i64 0), 1, 8) := by kernel_rfl
def numVals (l : List Nat) : List Value := l.map fun (m : Nat) => Value.int .i64 (m : Int)
theorem ownsRow_lower {w : World} {B B' : Nat} {e : TypeId} {size n : Nat} {v : Value} {xs : List Value} (h : w.ownsRow B e size v n xs) (hB : B' ≤ B) : w.ownsRow B' e size v n xs := by
  obtain ⟨hl, h2 | ⟨g, cap, cur, hv, hg, hr⟩⟩ := h
  · exact ⟨hl, .inl h2⟩
  · exact ⟨hl, .inr ⟨g, cap, cur, hv, Nat.le_trans hB hg, hr⟩⟩
theorem numVals_snoc (l : List Nat) (m : Nat) : numVals (l ++ [m]) = numVals l ++ [.int .i64 (m : Int)] := by simp [numVals]
theorem cellsKept_own {α : Type} (w0 : World) {n : Nat} : OwnFrom n (fun (_ : α) W => CellsKept w0.heap.size w0 W) :=
  fun _ _ _ _ hs hg hr => ⟨Nat.le_trans hs.size hg.size, fun g vs t fr hlt hh => by
    have h1 := hs.block g vs t fr hlt hh
    refine (hg.block g (Array.getElem?_eq_some_iff.1 h1).1 (fun e => ?_)).trans h1
    obtain ⟨_, o, ho, hc⟩ := hr g e.symm
    rw [h1] at ho
    cases ho
    cases hc⟩
theorem row_own {α : Type} (n g : Nat) (t : TypeId) (f : α → List Value) : OwnFrom n (fun (s : α) W => Row W g t (f s)) :=
  fun _ _ _ _ hs hg hr => hs.grown hg (fun e => by
    obtain ⟨_, o, ho, hc⟩ := hr g e.symm
    unfold Row at hs
    rw [hs] at ho
    cases ho
    cases hc)
end Go.Proofs.YtgehpaojbnpbcaaGreatDoor
namespace Go.Proofs.YtgehpaojbnpbcaaGreatDoor
open Go Go.RowKit
theorem ownsRow_ne {w : World} {g base n size : Nat} {t e : TypeId} {vs xs : List Value} {v : Value} (hr : Row w g t vs) (ht : t ≠ e) (h : w.ownsRow base e size v n xs) : some g ≠ v.ownBlock := by
  obtain ⟨hl, h2 | ⟨g', cap, cur, hv, hB, hh, _⟩⟩ := h
  · rw [h2.1]; simp [Value.ownBlock]
  · rw [hv]
    intro e'
    simp only [Value.ownBlock, Option.some.injEq] at e'
    subst e'
    unfold Row at hr
    rw [hr] at hh
    simp at hh
    exact ht hh.2
theorem below_append {W w' : World} {base k n : Nat} {v : Value} {xs : List Value} {o : Obj} (hrow : W.ownsRow base 3 1 v k xs) (hg : (W.alloc o).grownBy w' v.ownBlock) (hb : n ≤ base) (hW : n ≤ W.heap.size) : Below n W w' := by
  refine ((Below.refl n W).alloc hW o).grown hg (by simp; omega) (fun r e => ?_)
  obtain ⟨_, h2 | ⟨g', cap, cur, hv, hB, _, _⟩⟩ := hrow
  · rw [h2.1] at e; simp [Value.ownBlock] at e
  · rw [hv] at e; simp only [Value.ownBlock, Option.some.injEq] at e; omega
theorem ownsRow_slice {w : World} {B : Nat} {e : TypeId} {size n : Nat} {v : Value} {xs : List Value} (h : w.ownsRow B e size v n xs) : ∃ oa cap, v = .slice oa n cap := by
  obtain ⟨_, h2 | ⟨g, cap, cur, hv, _⟩⟩ := h
  · exact ⟨none, 0, by rw [h2.1, h2.2]⟩
  · exact ⟨_, _, hv⟩
theorem cell_drew {W : World} {p : Addr} {v : Value} (h : W.cell? p = some v) : W.drew.cell? p = some v := h
theorem cell_grow {W W' : World} {p : Addr} {v : Value} (hb : Below W.heap.size W W') (h : W.cell? p = some v) : W'.cell? p = some v := (hb.cell (World.block_lt_of_cell? _ _ h)).trans h
end Go.Proofs.YtgehpaojbnpbcaaGreatDoor
namespace Go.Proofs.YtgehpaojbnpbcaaGreatDoor
open Go Go.RowKit
/-- A slice's cells hold these numbers. -/
def HoldsInts (w : World) (oa : Option Addr) (xs : List Int) : Prop :=
  xs = [] ∨ ∃ b off, oa = some ⟨b, off, none⟩ ∧ b < w.heap.size ∧ ∀ i x, xs[i]? = some x → w.cell? ⟨b, off + i, none⟩ = some (.int .i64 x)
theorem HoldsInts.below {w w' : World} {oa : Option Addr} {xs : List Int} (h : HoldsInts w oa xs) (hb : Below w.heap.size w w') : HoldsInts w' oa xs := by
  rcases h with h | ⟨b, off, h1, h2, h3⟩
  · exact .inl h
  · exact .inr ⟨b, off, h1, Nat.lt_of_lt_of_le h2 hb.size, fun i x hx => (hb.cell (p := ⟨b, _, none⟩) h2).trans (h3 i x hx)⟩
theorem HoldsInts.at {w : World} {oa : Option Addr} {xs : List Int} (h : HoldsInts w oa xs) (hne : 0 < xs.length) : ∃ b off, oa = some ⟨b, off, none⟩ ∧ b < w.heap.size ∧ ∀ i x, xs[i]? = some x → w.cell? ⟨b, off + i, none⟩ = some (.int .i64 x) := by
  rcases h with h | h
  · subst h; simp at hne
  · exact h
def natInts (l : List Nat) : List Int := l.map fun (m : Nat) => (m : Int)
theorem holdsInts_of_owns {w : World} {B : Nat} {v : Value} {l : List Nat} (h : w.ownsRow B 3 1 v l.length (numVals l)) : ∃ oa cap, v = .slice oa (natInts l).length cap ∧ HoldsInts w oa (natInts l) := by
  have hln : (natInts l).length = l.length := by simp [natInts]
  obtain ⟨hl, h2 | ⟨g, cap, cur, hv, hB, hh, hn, _, hs, ht⟩⟩ := h
  · refine ⟨none, 0, by rw [h2.1, hln, h2.2], .inl ?_⟩
    have := List.eq_nil_of_length_eq_zero h2.2
    rw [this]; rfl
  · refine ⟨_, cap, by rw [hln]; exact hv, .inr ⟨g, 0, rfl, (Array.getElem?_eq_some_iff.1 hh).1, fun i x hx => ?_⟩⟩
    have hil := (List.getElem?_eq_some_iff.1 hx).1
    have hx' : (numVals l)[i]? = some (.int .i64 x) := by
      unfold natInts at hx
      unfold numVals
      rw [List.getElem?_map] at hx ⊢
      cases e : l[i]? with
      | none => rw [e] at hx; cases hx
      | some m => rw [e] at hx; simp at hx; subst hx; rfl
    rw [← ht, List.getElem?_take_of_lt (by omega)] at hx'
    rw [Nat.zero_add]
    simp [World.cell?, hh]
    simpa using hx'
end Go.Proofs.YtgehpaojbnpbcaaGreatDoor
namespace Go.Proofs.YtgehpaojbnpbcaaGreatDoor
open Go Go.RowKit
theorem byte_cell (w : World) (x : Int) (i : Nat) (hi : i < 1) : (w.alloc (.cells #[.int .u8 x] 5)).cell? ⟨w.heap.size, 0 + i, none⟩ = some (.int .u8 ([x].getD i 0)) := by
  obtain rfl : i = 0 := by omega
  simp
theorem conv_byte (w : World) (x : Int) : (convert 88 9 (.slice (some ⟨w.heap.size, 0, none⟩) 1 1)).run Tryz.prog (w.alloc (.cells #[.int .u8 x] 5)) = .ok (.string (strOfNums [x])) (w.alloc (.cells #[.int .u8 x] 5)) :=
  run_convert_bytes_arg _ 88 5 Tryz.underlying88 Tryz.underlying5 w.heap.size 0 1 1 [x] rfl (byte_cell w x) 9 Tryz.underlying9
theorem pow_small {d k K : Nat} (hk : 1 ≤ k) (h : k * 10 ^ d ≤ K) (hK : K ≤ 1099511627776) : d ≤ 12 := by
  rcases Nat.lt_or_ge 12 d with hd | hd
  · have h1 : 10 ^ 13 ≤ 10 ^ d := Nat.pow_le_pow_right (by omega) hd
    have h2 : 1 * 10 ^ d ≤ k * 10 ^ d := Nat.mul_le_mul_right _ hk
    omega
  · exact hd
theorem pow_step {d k K : Nat} (h : k * 10 ^ d ≤ K) : k / 10 * 10 ^ (d + 1) ≤ K := by
  have h1 : k / 10 * 10 ≤ k := Nat.div_mul_le_self k 10
  have h2 : k / 10 * 10 ^ (d + 1) = k / 10 * 10 * 10 ^ d := by rw [Nat.pow_succ, Nat.mul_comm (10 ^ d) 10, ← Nat.mul_assoc]
  rw [h2]
  exact Nat.le_trans (Nat.mul_le_mul_right _ h1) h
set_option maxRecDepth 100000 in
set_option maxHeartbeats 1600000 in
theorem markText_any (n : Nat) (w : World) (h1 : 1 ≤ n) (hn : n ≤ 1099511627776) :
    Calls Tryz.prog 81 #[.int .i64 (n : Int)] w fun e w' => ∃ s : ByteArray, e = .returned (.string s) ∧ s.size ≤ 40 ∧ Below w.heap.size w w' := by
  have k0 : decide (((n : Nat) : Int) ≤ 0) = false := by simp; omega
  go_enter Tryz.func81, Tryz.ntmps81
  go_wp2
  go_loopw [0, 3] (fun v s wr => ∃ (k : Nat) (out : ByteArray), v = .int .i64 k ∧ s = .string out ∧ k ≤ n ∧ out.size ≤ 13 ∧ Hid (k * 10 ^ out.size ≤ n) ∧ Below w.heap.size w wr) (fun v _ _ => (intOf v).toNat)
  case atStart => exact ⟨n, ByteArray.empty, rfl, rfl, Nat.le_refl _, by simp, Lib.hid (by simp), Below.refl _ _⟩
  case round =>
    obtain ⟨k, out, rfl, rfl, hk, hsz, hd, hb⟩ := hrel
    by_cases hlt : (0 : Int) < (k : Int)
    · have hconv := fun x => conv_byte wr x
      have h12 : out.size ≤ 12 := pow_small (by omega) hd.out hn
      have hs1 : (strOfNums [48 + (k : Int) % 10]).size = 1 := by rw [strOfNums_size]; rfl
      have hsum : (strOfNums [48 + (k : Int) % 10]).size + out.size ≤ 21 := by omega
      have HS : Hid ((strOfNums [48 + (k : Int) % 10] ++ out).size = out.size + 1) := Lib.hid (by rw [ByteArray.size_append, hs1]; omega)
      clear hs1
      go_wp2
      go_roundw
      case rel => exact ⟨k / 10, _, by go_num, rfl, by omega, by rw [HS.out]; omega, Lib.hid (by rw [HS.out]; exact pow_step hd.out), hb.alloc hb.size _⟩
      case measure => simp only [intOf]; omega
    · have hc : (ByteArray.mk #[109]).size + out.size ≤ 40 := by show 1 + out.size ≤ 40; omega
      have HS : Hid ((ByteArray.mk #[109] ++ out).size ≤ 40) := Lib.hid (by rw [ByteArray.size_append]; exact hc)
      go_wp2
      go_ret
      exact ⟨_, rfl, HS.out, hb⟩
end Go.Proofs.YtgehpaojbnpbcaaGreatDoor
namespace Go.Proofs.YtgehpaojbnpbcaaGreatDoor
open Go Go.RowKit
theorem markText_int (z : Int) (w : World) (h1 : 1 ≤ z) (hn : z ≤ 1099511627776) :
    Calls Tryz.prog 81 #[.int .i64 z] w fun e w' => ∃ s : ByteArray, e = .returned (.string s) ∧ s.size ≤ 40 ∧ Below w.heap.size w w' := by
  obtain ⟨n, rfl⟩ : ∃ n : Nat, z = (n : Int) := ⟨z.toNat, by omega⟩
  exact markText_any n w (by omega) (by omega)
theorem Turns.set (w : World) (g i : Nat) (v : Value) : Turns w (w.setCell ⟨g, i, none⟩ v) g g :=
  ⟨rfl, rfl, rfl, by simp, fun b _ h _ => Below.heap_setCell _ _ _ _ h⟩
theorem Turns.id (w : World) (g : Nat) : Turns w w g g := ⟨rfl, rfl, rfl, Nat.le_refl _, fun _ _ _ _ => rfl⟩
set_option maxRecDepth 100000 in
set_option maxHeartbeats 1600000 in
theorem markItemS_any (g n cap : Nat) (vs : List Value) (k : Int) (w : World) (hn : n ≤ 1048576) (h0 : 0 ≤ k) (h1 : k ≤ 1099000000000) (hR : Row w g 137 vs) (hvl : 3 * n ≤ vs.length) :
    Calls Tryz.prog 49 #[.slice (some ⟨g, 0, none⟩) n cap, .int .i64 k] w fun e w' => e = .returned (.int .i64 (k + 3 * n)) ∧ Turns w w' g g ∧ ∃ us, Row w' g 137 us ∧ us.length = vs.length := by
  have HR0 := Lib.hid hR
  clear hR
  go_enter Tryz.func49, Tryz.ntmps49
  go_wp2
  go_loopw [1, 5] (fun kv i wr => ∃ (j : Nat) (us : List Value), kv = .int .i64 (k + 3 * j) ∧ i = .int .i64 j ∧ j ≤ n ∧ us.length = vs.length ∧ Row wr g 137 us ∧ Turns w wr g g) (fun _ i _ => n - (intOf i).toNat)
  case atStart => exact ⟨0, vs, by simp, rfl, Nat.zero_le _, rfl, HR0.out, Turns.id _ _⟩
  case round =>
    obtain ⟨j, us, rfl, rfl, hj, hul, hR, hT⟩ := hrel
    by_cases hlt : j < n
    · obtain ⟨u0, hu0⟩ : ∃ u, us[j * 3]? = some u := ⟨_, List.getElem?_eq_getElem (by omega)⟩
      obtain ⟨u1, hu1⟩ : ∃ u, us[j * 3 + 1]? = some u := ⟨_, List.getElem?_eq_getElem (by omega)⟩
      obtain ⟨u2, hu2⟩ : ∃ u, us[j * 3 + 2]? = some u := ⟨_, List.getElem?_eq_getElem (by omega)⟩
      have c0 := hR.cell hu0
      have f0 := hR.frozen (j * 3)
      have HR := Lib.hid hR
      have HT := Lib.hid hT
      have HU := Lib.hid (And.intro hul (And.intro hu1 hu2))
      clear hu0 hu1 hu2 hR hT hul
      go_wp2_with fail
      refine (markText_int _ _ (by omega) (by omega)).mono ?_
      rintro e w2 ⟨s, rfl, hs, hb⟩
      have hR1 := HR.out.set (j * 3) (.int .i64 (k + 3 * j))
      have HR2 := Lib.hid (hR1.below hb hR1.lt)
      have HT2 : Hid (Turns w w2 g g) := Lib.hid ((HT.out.trans (Turns.set _ _ _ _)).trans (.of_below hb))
      have c1 := HR2.out.cell (i := j * 3 + 1) (v := u1) (by rw [List.getElem?_set_ne (by omega)]; exact HU.out.2.1)
      have f1 := HR2.out.frozen (j * 3 + 1)
      have c2 := HR2.out.cell (i := j * 3 + 2) (v := u2) (by rw [List.getElem?_set_ne (by omega)]; exact HU.out.2.2)
      have f2 := HR2.out.frozen (j * 3 + 2)
      clear hR1 hb
      go_wp2
      go_roundw
      case rel => exact ⟨j + 1, _, by go_num, by go_num, by omega, by rw [List.length_set, List.length_set, List.length_set]; exact HU.out.1, (HR2.out.set (j * 3 + 1) _).set (j * 3 + 2) _, (HT2.out.trans (Turns.set _ _ _ _)).trans (Turns.set _ _ _ _)⟩
      case measure => simp only [intOf]; omega
    · obtain rfl : j = n := by omega
      have HP := Lib.hid (And.intro hT (And.intro hR hul))
      clear hT hR hul
      go_wp2
      go_ret
      exact ⟨rfl, HP.out.1, us, HP.out.2.1, HP.out.2.2⟩
/-- No block turns but those from b0 on and below b1. -/
structure Mid (b0 b1 : Nat) (w w' : World) : Prop where
  os : w'.os = w.os
  tape : w'.tape = w.tape
  output : w'.output = w.output
  size : w.heap.size ≤ w'.heap.size
  rest : ∀ b, b < w.heap.size → (b < b0 ∨ b1 ≤ b) → w'.heap[b]? = w.heap[b]?
theorem Mid.id (b0 b1 : Nat) (w : World) : Mid b0 b1 w w := ⟨rfl, rfl, rfl, Nat.le_refl _, fun _ _ _ => rfl⟩
theorem Mid.trans {b0 b1 : Nat} {a b c : World} (h : Mid b0 b1 a b) (k : Mid b0 b1 b c) : Mid b0 b1 a c :=
  ⟨k.os.trans h.os, k.tape.trans h.tape, k.output.trans h.output, Nat.le_trans h.size k.size, fun g hg hx => (k.rest g (Nat.lt_of_lt_of_le hg h.size) hx).trans (h.rest g hg hx)⟩
theorem Mid.of_turns {b0 b1 g : Nat} {w w' : World} (h : Turns w w' g g) (h0 : b0 ≤ g) (h1 : g < b1) : Mid b0 b1 w w' :=
  ⟨h.os, h.tape, h.output, h.size, fun b hb hx => h.rest b hb (by omega) (by omega)⟩
theorem Mid.of_below {b0 b1 : Nat} {w w' : World} (h : Below w.heap.size w w') : Mid b0 b1 w w' := ⟨h.os, h.tape, h.output, h.size, fun b hb _ => h.block b hb⟩
theorem Mid.below {b0 b1 B : Nat} {w w' : World} (h : Mid b0 b1 w w') (hB : B ≤ b0) (hs : B ≤ w.heap.size) : Below B w w' := ⟨h.os, h.tape, h.output, h.size, fun b hb => h.rest b (by omega) (by omega)⟩
theorem Mid.row {b0 b1 g : Nat} {t : TypeId} {vs : List Value} {w w' : World} (h : Mid b0 b1 w w') (hr : Row w g t vs) (hg : g < b0 ∨ b1 ≤ g) : Row w' g t vs := hr.same (h.rest g hr.lt hg)
theorem Row.same_cells {w : World} {g : Nat} {t t' : TypeId} {vs us : List Value} (h : Row w g t vs) (k : Row w g t' us) : vs = us := by
  unfold Row at h k
  rw [h] at k
  simp at k
  exact k.1
/-- A graph whose blocks are one's own. -/
structure OwnGraph (w : World) (g b0 b1 : Nat) (vs : List Value) (ss : List Sc) : Prop where
  low : b0 ≤ g
  high : g < b1
  row : Row w g 67 vs
  len : vs.length = 2 * ss.length
  items : ∀ i s, ss[i]? = some s → ∃ (gi ci : Nat) (us : List Value), vs[i * 2 + 1]? = some (.slice (some ⟨gi, 0, none⟩) s.items.length ci) ∧ g < gi ∧ gi < b1 ∧ Row w gi 137 us ∧ us.length = 3 * s.items.length
def marks : List Sc → Nat
  | [] => 0
  | s :: r => 1 + 3 * s.items.length + marks r
theorem marks_snoc (l : List Sc) (s : Sc) : marks (l ++ [s]) = marks l + (1 + 3 * s.items.length) := by
  induction l with
  | nil => simp [marks]
  | cons t r ih => simp only [List.cons_append, marks, ih]; omega
theorem marks_step {ss : List Sc} {j : Nat} {s : Sc} (h : ss[j]? = some s) : marks (ss.take (j + 1)) = marks (ss.take j) + (1 + 3 * s.items.length) := by
  rw [List.take_add_one, h]; exact marks_snoc _ _
theorem marks_take_le : ∀ (ss : List Sc) (j : Nat), marks (ss.take j) ≤ marks ss
  | [], j => by simp
  | s :: r, 0 => by simp [marks]
  | s :: r, j + 1 => by simp only [List.take_succ_cons, marks]; have := marks_take_le r j; omega
theorem marks_le : ∀ ss : List Sc, marks ss ≤ 3 * wScopes ss
  | [] => by simp [marks]
  | s :: r => by simp only [marks, wScopes]; have := marks_le r; have := wItems_eq s.items; omega
set_option maxRecDepth 100000 in
set_option maxHeartbeats 1600000 in
theorem markScopeS_any (g b0 b1 cap : Nat) (vs : List Value) (ss : List Sc) (k : Int) (w : World) (hw : wScopes ss ≤ 1048576) (h0 : 0 ≤ k) (h1 : k ≤ 1048576) (hO : OwnGraph w g b0 b1 vs ss) :
    Calls Tryz.prog 27 #[.slice (some ⟨g, 0, none⟩) ss.length cap, .int .i64 k] w fun e w' => e = .returned (.int .i64 (k + marks ss)) ∧ Mid b0 b1 w w' := by
  have HO := Lib.hid hO
  have hln : ss.length ≤ 1048576 := by have := wScopes_eq ss; omega
  have hm := marks_le ss
  clear hO
  go_enter Tryz.func27, Tryz.ntmps27
  go_wp2
  go_loopw [1, 5] (fun kv i wr => ∃ (j : Nat) (us : List Value), kv = .int .i64 (k + marks (ss.take j)) ∧ i = .int .i64 j ∧ j ≤ ss.length ∧ OwnGraph wr g b0 b1 us ss ∧ Mid b0 b1 w wr) (fun _ i _ => ss.length - (intOf i).toNat)
  case atStart => exact ⟨0, vs, by simp [marks], rfl, Nat.zero_le _, HO.out, Mid.id _ _ _⟩
  case round =>
    obtain ⟨j, us, rfl, rfl, hj, hG, hM⟩ := hrel
    by_cases hlt : j < ss.length
    · obtain ⟨s, hs⟩ : ∃ s, ss[j]? = some s := ⟨_, List.getElem?_eq_getElem hlt⟩
      have hst := marks_step hs
      have hle := marks_take_le ss (j + 1)
      obtain ⟨gi, ci, ui, hv, hgi, hgb, hRi, hli⟩ := hG.items j s hs
      obtain ⟨u0, hu0⟩ : ∃ u, us[j * 2]? = some u := ⟨_, List.getElem?_eq_getElem (by have := hG.len; omega)⟩
      have c0 := hG.row.cell hu0
      have f0 := hG.row.frozen (j * 2)
      have HG := Lib.hid hG
      have HM := Lib.hid hM
      have hR1 := Lib.hid (hG.row.set (j * 2) (.int .i64 (k + marks (ss.take j))))
      have hRi1 := Lib.hid (hRi.other (a := ⟨g, j * 2, none⟩) (by show g ≠ gi; omega) (.int .i64 (k + marks (ss.take j))))
      have c1 := hG.row.cell hv
      have hil : s.items.length ≤ 1048576 := by omega
      have HS := Lib.hid (And.intro hs (And.intro hgi (And.intro hgb hli)))
      have HST := Lib.hid hst
      have hb1 : (0 : Int) ≤ k + (marks (ss.take j) : Int) := by omega
      have hb2 : k + (marks (ss.take j) : Int) ≤ 10485760 := by omega
      clear hG hM hRi hs hv hu0 hst
      go_wp2_with fail
      refine (markItemS_any gi s.items.length ci ui _ _ hil (by omega) (by omega) hRi1.out (by omega)).mono ?_
      rintro e w3 ⟨rfl, ht3, u3, hR3, hl3⟩
      have HM3 : Hid (Mid b0 b1 w w3) := Lib.hid (HM.out.trans ((Mid.of_turns (Turns.set _ g _ _) HG.out.low HG.out.high).trans (.of_turns ht3 (by have := HG.out.low; omega) hgb)))
      have HG3 : Hid (OwnGraph w3 g b0 b1 (us.set (j * 2) (.int .i64 (k + marks (ss.take j)))) ss) := Lib.hid (by
        have hrow3 : Row w3 g 67 (us.set (j * 2) (.int .i64 (k + marks (ss.take j)))) := hR1.out.same (ht3.rest g hR1.out.lt (by omega) (by omega))
        refine ⟨HG.out.low, HG.out.high, hrow3, by rw [List.length_set]; exact HG.out.len, fun i t hit => ?_⟩
        obtain ⟨gt, ct, ut, q1, q2, q3, q4, q5⟩ := HG.out.items i t hit
        have q1' : (us.set (j * 2) (.int .i64 (k + marks (ss.take j))))[i * 2 + 1]? = some (.slice (some ⟨gt, 0, none⟩) t.items.length ct) := by
          rw [List.getElem?_set_ne (by omega)]; exact q1
        have q4' := q4.other (a := ⟨g, j * 2, none⟩) (by show g ≠ gt; omega) (.int .i64 (k + marks (ss.take j)))
        by_cases he : gt = gi
        · subst he
          have := q4'.same_cells hRi1.out
          exact ⟨gt, ct, u3, q1', q2, q3, hR3, by rw [hl3, ← this]; exact q5⟩
        · exact ⟨gt, ct, ut, q1', q2, q3, q4'.same (ht3.rest gt q4'.lt he he), q5⟩)
      have HK : Hid (k + (marks (ss.take j) : Int) + 1 + 3 * (s.items.length : Int) = k + (marks (ss.take (j + 1)) : Int)) := Lib.hid (by rw [HST.out]; omega)
      clear ht3 hR3 hl3
      go_wp2
      go_roundw
      case rel => exact ⟨j + 1, _, by rw [HK.out], by go_num, by omega, HG3.out, HM3.out⟩
      case measure => simp only [intOf]; omega
    · obtain rfl : j = ss.length := by omega
      have HP := Lib.hid hM
      clear hM hG
      go_wp2
      go_ret
      exact ⟨by rw [List.take_length]; rfl, HP.out⟩
theorem OwnGraph.below {w w' : World} {g b0 b1 : Nat} {vs : List Value} {ss : List Sc} (h : OwnGraph w g b0 b1 vs ss) (hb : Below w.heap.size w w') : OwnGraph w' g b0 b1 vs ss where
  low := h.low
  high := h.high
  row := h.row.below hb h.row.lt
  len := h.len
  items := fun i s hs => by
    obtain ⟨gi, ci, us, q1, q2, q3, q4, q5⟩ := h.items i s hs
    exact ⟨gi, ci, us, q1, q2, q3, q4.below hb q4.lt, q5⟩
set_option maxRecDepth 100000 in
theorem markGraph_any (g b0 b1 cap : Nat) (vs : List Value) (ss : List Sc) (k : Int) (w : World) (hw : wScopes ss ≤ 1048576) (h0 : 0 ≤ k) (h1 : k ≤ 1048576) (hO : OwnGraph w g b0 b1 vs ss) :
    Calls Tryz.prog 11 #[.agg #[.slice (some ⟨g, 0, none⟩) ss.length cap], .int .i64 k] w fun e w' => e = .returned (.int .i64 (k + marks ss)) ∧ Mid b0 b1 w w' := by
  have hb0 := (Below.refl w.heap.size w).alloc (Nat.le_refl _) (.cells #[.slice (some ⟨g, 0, none⟩) ss.length cap] 28)
  have C := Lib.hid (markScopeS_any g b0 b1 cap vs ss k _ hw h0 h1 (hO.below hb0))
  have HB := Lib.hid hb0
  clear hO hb0
  go_enter Tryz.func11, Tryz.ntmps11
  go_wp2_with fail
  refine C.out.mono ?_
  rintro e w1 ⟨rfl, hm⟩
  have HM := Lib.hid ((Mid.of_below HB.out).trans hm)
  clear hm
  go_wp2
  go_ret
  exact ⟨rfl, HM.out⟩
/-- The copy of a graph, as the laws make it, is one's own. -/
theorem toGraph_own {ss : List Sc} (hn : ss.length ≤ 1048576) (hn2 : ∀ s ∈ ss, s.items.length ≤ 1048576) {w0 : World} (oa : Option Addr) (cap : Nat) (hc : HoldsScopes w0 oa ss) {w : World} (hb : Below w0.heap.size w0 w) :
    Calls Tryz.prog 8 #[.agg #[.slice oa ss.length cap]] w fun e w' => ∃ g vs, e = .returned (.agg #[.slice (some ⟨g, 0, none⟩) ss.length ss.length]) ∧ HoldsScopes w' (some ⟨g, 0, none⟩) ss ∧ OwnGraph w' g w.heap.size w'.heap.size vs ss ∧ Below w.heap.size w w' :=
  (toGraph_any ss oa cap w hn hn2 (hc.below hb (Nat.le_refl _))).mono fun _ w' ⟨g, vs, h1, h2, h3, h4, h5, h6⟩ => ⟨g, vs, h1, h5.holds h4, ⟨by omega, h4.lt, h4, h3, fun i s hs => by
    obtain ⟨gi, _, b, c, d⟩ := h5 i s (List.getElem?_eq_some_iff.1 hs).1 hs
    exact ⟨gi, _, _, b, c, d.lt, d, by rw [itemCells_length]⟩⟩, h6⟩
end Go.Proofs.YtgehpaojbnpbcaaGreatDoor
namespace Go.Proofs.YtgehpaojbnpbcaaGreatDoor
open Go Go.RowKit
theorem infoPlace : (Tryz.prog.info? 59).map (fun i => (i.zero, i.size, i.bytes)) = some (some (.agg #[.int .i64 0, .int .i64 0]), 2, 16) := by kernel_rfl
/-- The places' cells. -/
def placeCells (ps : List (Int × Int)) : List Value := ps.flatMap fun p => [.int .i64 p.1, .int .i64 p.2]
/-- A slice whose cells hold places. -/
def HoldsPlaces (w : World) (b off : Nat) (ps : List (Int × Int)) : Prop :=
  ∀ i p, ps[i]? = some p → w.cell? ⟨b, off + i * 2, none⟩ = some (.int .i64 p.1) ∧ w.cell? ⟨b, off + i * 2 + 1, none⟩ = some (.int .i64 p.2)
theorem placeCells_snoc (ps : List (Int × Int)) (p : Int × Int) : placeCells (ps ++ [p]) = placeCells ps ++ [.int .i64 p.1, .int .i64 p.2] := by
  simp [placeCells]
theorem placeCells_at (ps : List (Int × Int)) : ∀ (i : Nat) (p : Int × Int), ps[i]? = some p → (placeCells ps)[i * 2]? = some (.int .i64 p.1) ∧ (placeCells ps)[i * 2 + 1]? = some (.int .i64 p.2) := by
  induction ps with
  | nil => intro i p h; simp at h
  | cons q r ih =>
    intro i p h
    have e : placeCells (q :: r) = .int .i64 q.1 :: .int .i64 q.2 :: placeCells r := rfl
    cases i with
    | zero => simp at h; subst h; rw [e]; simp
    | succ i =>
      have := ih i p (by simpa using h)
      rw [e, show (i + 1) * 2 = i * 2 + 1 + 1 from by omega]
      simpa using this
theorem HoldsPlaces.below {w w' : World} {b off B : Nat} {ps : List (Int × Int)} (h : HoldsPlaces w b off ps) (hb : Below B w w') (hB : b < B) : HoldsPlaces w' b off ps := by
  intro i p hp
  obtain ⟨h1, h2⟩ := h i p hp
  exact ⟨(hb.cell (p := ⟨b, _, none⟩) hB).trans h1, (hb.cell (p := ⟨b, _, none⟩) hB).trans h2⟩
/-- A slice of places that came in: nil, or its cells hold them. -/
def ArgPlaces (w : World) (oa : Option Addr) (ps : List (Int × Int)) : Prop :=
  ps = [] ∨ ∃ b off, oa = some ⟨b, off, none⟩ ∧ b < w.heap.size ∧ HoldsPlaces w b off ps
theorem ArgPlaces.below {w w' : World} {oa : Option Addr} {ps : List (Int × Int)} (h : ArgPlaces w oa ps) (hb : Below w.heap.size w w') : ArgPlaces w' oa ps := by
  rcases h with h | ⟨b, off, h1, h2, h3⟩
  · exact .inl h
  · exact .inr ⟨b, off, h1, Nat.lt_of_lt_of_le h2 hb.size, h3.below hb h2⟩
/-- Two places are told to be the same exactly if they are. -/
theorem eqPlace_any (a b c d : Int) (w : World) :
    Calls Tryz.prog 38 #[.agg #[.int .i64 a, .int .i64 b], .agg #[.int .i64 c, .int .i64 d]] w fun e w' => e = .returned (.bool (decide (a = c ∧ b = d))) ∧ Below w.heap.size w w' := by
  by_cases h1 : a = c
  · by_cases h2 : b = d
    · subst h1 h2
      go_enter Tryz.func38, Tryz.ntmps38
      go_wp2
      go_ret
      exact ⟨by simp, by repeat (first | exact Below.refl _ _ | apply Below.drew | refine Below.alloc ?_ (by simp <;> omega) _)⟩
    · subst h1
      have h3 : (b == d) = false := by simpa using h2
      have H2 := Lib.hid h2
      clear h2
      go_enter Tryz.func38, Tryz.ntmps38
      go_wp2
      go_ret
      exact ⟨by simp [H2.out], by repeat (first | exact Below.refl _ _ | apply Below.drew | refine Below.alloc ?_ (by simp <;> omega) _)⟩
  · have h3 : (a == c) = false := by simpa using h1
    have H1 := Lib.hid h1
    clear h1
    go_enter Tryz.func38, Tryz.ntmps38
    go_wp2
    go_ret
    exact ⟨by simp [H1.out], by repeat (first | exact Below.refl _ _ | apply Below.drew | refine Below.alloc ?_ (by simp <;> omega) _)⟩
set_option maxRecDepth 100000 in
set_option maxHeartbeats 1600000 in
/-- Two lists of places that are the same are told to be so. -/
theorem eqPlaceS_same (ps : List (Int × Int)) (b1 o1 c1 b2 o2 c2 : Nat) (w : World) (hn : ps.length < 2 ^ 40) (h1 : b1 < w.heap.size) (h2 : b2 < w.heap.size) (k1 : HoldsPlaces w b1 o1 ps) (k2 : HoldsPlaces w b2 o2 ps) :
    Calls Tryz.prog 17 #[.slice (some ⟨b1, o1, none⟩) ps.length c1, .slice (some ⟨b2, o2, none⟩) ps.length c2] w fun e w' => e = .returned (.bool true) ∧ Below w.heap.size w w' := by
  have K1 := Lib.hid k1
  have K2 := Lib.hid k2
  clear k1 k2
  go_enter Tryz.func17, Tryz.ntmps17
  go_wp2
  go_loopw [5] (fun i wr => ∃ k : Nat, i = .int .i64 k ∧ k ≤ ps.length ∧ Below w.heap.size w wr) (fun i _ => ps.length - (intOf i).toNat)
  case atStart => exact ⟨0, rfl, Nat.zero_le _, Below.refl _ _⟩
  case round =>
    obtain ⟨k, rfl, hk, hb⟩ := hrel
    by_cases hlt : k < ps.length
    · obtain ⟨p, hp⟩ : ∃ p, ps[k]? = some p := ⟨_, List.getElem?_eq_getElem hlt⟩
      obtain ⟨a0, a1⟩ := (K1.out.below hb h1) k p hp
      obtain ⟨d0, d1⟩ := (K2.out.below hb h2) k p hp
      clear hp
      have r0 := cell_regrown a0
      have r1 := cell_regrown a1
      have r2 := cell_regrown d0
      have r3 := cell_regrown d1
      have cE : ∀ d os, Calls Tryz.prog 38 #[.agg #[.int .i64 p.1, .int .i64 p.2], .agg #[.int .i64 p.1, .int .i64 p.2]] (Sort.grow (redrawn wr d) os) fun e w'' => e = .returned (.bool true) ∧ ∃ q : Regrown, w'' = Sort.grow (redrawn wr q.d) q.os :=
        fun d os => Calls.regrown_of ((eqPlace_any p.1 p.2 p.1 p.2 _).mono fun _ _ h => by simpa using h)
      clear a0 a1 d0 d1
      go_wp2_with fail
      refine wp_region_quiet_below (by kernel_rfl) (by kernel_rfl) ?_
      repeat (quiet_step (exact cE _ _))
      refine wpQuiet_nil ?_
      intro _ hw'
      obtain ⟨⟨dq, osq⟩, hw''⟩ := hw'
      subst hw''
      have hb' := hb.trans ((below_regrown wr dq osq).mono hb.size)
      go_wp2
      go_roundw
      case rel => exact ⟨k + 1, by go_num, by omega, hb'⟩
      case measure => simp only [intOf]; omega
    · go_wp2
      go_ret
      exact ⟨rfl, hb⟩
end Go.Proofs.YtgehpaojbnpbcaaGreatDoor
namespace Go.Proofs.YtgehpaojbnpbcaaGreatDoor
open Go Go.RowKit
theorem ArgPlaces.at {w : World} {oa : Option Addr} {ps : List (Int × Int)} (h : ArgPlaces w oa ps) (hne : 0 < ps.length) : ∃ b off, oa = some ⟨b, off, none⟩ ∧ b < w.heap.size ∧ HoldsPlaces w b off ps := by
  rcases h with h | h
  · subst h; simp at hne
  · exact h
theorem argPlaces_of_owns {w : World} {B : Nat} {v : Value} {ps : List (Int × Int)} (h : w.ownsRow B 59 2 v ps.length (placeCells ps)) : ∃ oa cap, v = .slice oa ps.length cap ∧ ArgPlaces w oa ps := by
  obtain ⟨hl, h2 | ⟨g, cap, cur, hv, hB, hh, hn, _, hs, ht⟩⟩ := h
  · exact ⟨none, 0, by rw [h2.1, h2.2], .inl (List.eq_nil_of_length_eq_zero h2.2)⟩
  · refine ⟨_, cap, hv, .inr ⟨g, 0, rfl, (Array.getElem?_eq_some_iff.1 hh).1, fun i p hp => ?_⟩⟩
    have hil := (List.getElem?_eq_some_iff.1 hp).1
    obtain ⟨h0, h1⟩ := placeCells_at ps i p hp
    rw [← ht] at h0 h1
    rw [List.getElem?_take_of_lt (by omega)] at h0 h1
    rw [Nat.zero_add]
    constructor
    · simp [World.cell?, hh]; simpa using h0
    · simp [World.cell?, hh]; simpa using h1
set_option maxRecDepth 100000 in
theorem eqPlaceS_nil (o1 o2 : Option Addr) (c1 c2 : Nat) (w : World) :
    Calls Tryz.prog 17 #[.slice o1 0 c1, .slice o2 0 c2] w fun e w' => e = .returned (.bool true) ∧ Below w.heap.size w w' := by
  go_enter Tryz.func17, Tryz.ntmps17
  go_wp2
  go_loopw [5] (fun i wr => i = .int .i64 0 ∧ Below w.heap.size w wr) (fun _ _ => 0)
  case atStart => exact ⟨rfl, Below.refl _ _⟩
  case round =>
    obtain ⟨rfl, hb⟩ := hrel
    go_wp2
    go_ret
    exact ⟨rfl, hb⟩
theorem eqPlaceS_arg (ps : List (Int × Int)) (o1 o2 : Option Addr) (c1 c2 : Nat) (w : World) (hn : ps.length < 2 ^ 40) (k1 : ArgPlaces w o1 ps) (k2 : ArgPlaces w o2 ps) :
    Calls Tryz.prog 17 #[.slice o1 ps.length c1, .slice o2 ps.length c2] w fun e w' => e = .returned (.bool true) ∧ Below w.heap.size w w' := by
  rcases k1 with rfl | ⟨b1, f1, rfl, h1, q1⟩
  · exact eqPlaceS_nil o1 o2 c1 c2 w
  · rcases k2 with rfl | ⟨b2, f2, rfl, h2, q2⟩
    · exact eqPlaceS_nil _ o2 c1 c2 w
    · exact eqPlaceS_same ps b1 f1 c1 b2 f2 c2 w hn h1 h2 q1 q2
/-- A row of places that is the list's own. -/
def OwnPl (w : World) (B : Nat) (oa : Option Addr) (n : Nat) : Prop := n = 0 ∨ ∃ (g : Nat) (vs : List Value), oa = some ⟨g, 0, none⟩ ∧ B ≤ g ∧ Row w g 59 vs ∧ n * 2 ≤ vs.length
/-- It holds the numbers from k on. -/
def MarkedPl (w : World) (oa : Option Addr) (n : Nat) (k : Int) : Prop := n = 0 ∨ ∃ (g : Nat) (vs : List Value), oa = some ⟨g, 0, none⟩ ∧ Row w g 59 vs ∧ ∀ i, i < n → vs[i * 2]? = some (.int .i64 (k + 2 * i)) ∧ vs[i * 2 + 1]? = some (.int .i64 (k + 2 * i + 1))
theorem ownPl_of_owns {w : World} {B n : Nat} {oa : Option Addr} {cap : Nat} {xs : List Value} (h : w.ownsRow B 59 2 (.slice oa n cap) n xs) : OwnPl w B oa n := by
  obtain ⟨hl, h2 | ⟨g, cap', cur, hv, hB, hh, hn, _, hs, ht⟩⟩ := h
  · exact .inl h2.2
  · simp only [Value.slice.injEq] at hv
    obtain ⟨rfl, _, _⟩ := hv
    exact .inr ⟨g, cur.toList, rfl, hB, hh, by rw [Array.length_toList]; omega⟩
theorem OwnPl.below {w w' : World} {B n : Nat} {oa : Option Addr} (h : OwnPl w B oa n) (hb : Below w.heap.size w w') : OwnPl w' B oa n := by
  rcases h with h | ⟨g, vs, h1, h2, h3, h4⟩
  · exact .inl h
  · exact .inr ⟨g, vs, h1, h2, h3.below hb h3.lt, h4⟩
theorem MarkedPl.below {w w' : World} {n : Nat} {oa : Option Addr} {k : Int} (h : MarkedPl w oa n k) (hb : Below w.heap.size w w') : MarkedPl w' oa n k := by
  rcases h with h | ⟨g, vs, h1, h3, h4⟩
  · exact .inl h
  · exact .inr ⟨g, vs, h1, h3.below hb h3.lt, h4⟩
set_option maxRecDepth 100000 in
set_option maxHeartbeats 1600000 in
theorem markPlaceS_any (oa : Option Addr) (n cap B : Nat) (k : Int) (w : World) (hn : n < 2 ^ 40) (h0 : 0 ≤ k) (h1 : k ≤ 2 ^ 40) (h : OwnPl w B oa n) :
    Calls Tryz.prog 18 #[.slice oa n cap, .int .i64 k] w fun e w' => e = .returned (.int .i64 (k + 2 * n)) ∧ MarkedPl w' oa n k ∧ Below B w w' := by
  rcases h with rfl | ⟨g, vs, rfl, hg, hR, hvl⟩
  · go_enter Tryz.func18, Tryz.ntmps18
    go_wp2
    go_loopw [1, 5] (fun kv i wr => kv = .int .i64 k ∧ i = .int .i64 0 ∧ Below B w wr) (fun _ _ _ => 0)
    case atStart => exact ⟨rfl, rfl, Below.refl _ _⟩
    case round =>
      obtain ⟨rfl, rfl, hb⟩ := hrel
      go_wp2
      go_ret
      exact ⟨by simp, .inl rfl, hb⟩
  · have HR0 := Lib.hid hR
    clear hR
    go_enter Tryz.func18, Tryz.ntmps18
    go_wp2
    go_loopw [1, 5] (fun kv i wr => ∃ (j : Nat) (us : List Value), kv = .int .i64 (k + 2 * j) ∧ i = .int .i64 j ∧ j ≤ n ∧ us.length = vs.length ∧ Hid (∀ i, i < j → us[i * 2]? = some (.int .i64 (k + 2 * i)) ∧ us[i * 2 + 1]? = some (.int .i64 (k + 2 * i + 1))) ∧ Row wr g 59 us ∧ Below B w wr) (fun _ i _ => n - (intOf i).toNat)
    case atStart => exact ⟨0, vs, by simp, rfl, Nat.zero_le _, rfl, Lib.hid (fun i hi => absurd hi (by omega)), HR0.out, Below.refl _ _⟩
    case round =>
      obtain ⟨j, us, rfl, rfl, hj, hul, hus, hR, hb⟩ := hrel
      by_cases hlt : j < n
      · obtain ⟨u, hu⟩ : ∃ u, us[j * 2]? = some u := ⟨_, List.getElem?_eq_getElem (by omega)⟩
        obtain ⟨u1, hu1⟩ : ∃ u, us[j * 2 + 1]? = some u := ⟨_, List.getElem?_eq_getElem (by omega)⟩
        have c0 := hR.cell hu
        have f0 := hR.frozen (j * 2)
        have c1 := hR.cell hu1
        have f1 := hR.frozen (j * 2 + 1)
        have c2 := ((hR.set (j * 2) (.int .i64 (k + 2 * j))).cell (i := j * 2 + 1) (v := u1) (by rw [List.getElem?_set_ne (by omega)]; exact hu1))
        have HRN := Lib.hid ((hR.set (j * 2) (.int .i64 (k + 2 * j))).set (j * 2 + 1) (.int .i64 (k + 2 * j + 1)))
        have HBN := Lib.hid ((hb.setCell (p := ⟨g, j * 2, none⟩) hg (.int .i64 (k + 2 * j))).setCell (p := ⟨g, j * 2 + 1, none⟩) hg (.int .i64 (k + 2 * j + 1)))
        have HUS : Hid (∀ i, i < j + 1 → ((us.set (j * 2) (.int .i64 (k + 2 * j))).set (j * 2 + 1) (.int .i64 (k + 2 * j + 1)))[i * 2]? = some (.int .i64 (k + 2 * i)) ∧ ((us.set (j * 2) (.int .i64 (k + 2 * j))).set (j * 2 + 1) (.int .i64 (k + 2 * j + 1)))[i * 2 + 1]? = some (.int .i64 (k + 2 * i + 1))) := Lib.hid (fun i hi => by
          by_cases he : i = j
          · subst he
            refine ⟨?_, ?_⟩
            · rw [List.getElem?_set_ne (by omega), List.getElem?_set_self (by omega)]
            · rw [List.getElem?_set_self (by rw [List.length_set]; omega)]
          · refine ⟨?_, ?_⟩
            · rw [List.getElem?_set_ne (by omega), List.getElem?_set_ne (by omega)]; exact (hus.out i (by omega)).1
            · rw [List.getElem?_set_ne (by omega), List.getElem?_set_ne (by omega)]; exact (hus.out i (by omega)).2)
        have HUL : Hid (((us.set (j * 2) (.int .i64 (k + 2 * j))).set (j * 2 + 1) (.int .i64 (k + 2 * j + 1))).length = vs.length) := Lib.hid (by rw [List.length_set, List.length_set]; exact hul)
        clear hu hu1 hR hb hus hul
        go_wp2
        go_roundw
        case rel => exact ⟨j + 1, _, by go_num, by go_num, by omega, HUL.out, HUS, HRN.out, HBN.out⟩
        case measure => simp only [intOf]; omega
      · obtain rfl : j = n := by omega
        have HP := Lib.hid (And.intro hR hb)
        clear hR hb hul
        go_wp2
        go_ret
        exact ⟨rfl, .inr ⟨g, us, rfl, HP.out.1, hus.out⟩, HP.out.2⟩
set_option maxRecDepth 100000 in
set_option maxHeartbeats 1600000 in
theorem heldPlaceS_any (oa : Option Addr) (n cap : Nat) (k : Int) (w : World) (hn : n < 2 ^ 40) (h0 : 0 ≤ k) (h1 : k ≤ 2 ^ 40) (h : MarkedPl w oa n k) :
    Calls Tryz.prog 19 #[.slice oa n cap, .int .i64 k] w fun e w' => e = .returned (.int .i64 (k + 2 * n)) ∧ Below w.heap.size w w' := by
  have H := Lib.hid h
  clear h
  go_enter Tryz.func19, Tryz.ntmps19
  go_wp2
  go_loopw [1, 5] (fun kv i wr => ∃ j : Nat, kv = .int .i64 (k + 2 * j) ∧ i = .int .i64 j ∧ j ≤ n ∧ Below w.heap.size w wr) (fun _ i _ => n - (intOf i).toNat)
  case atStart => exact ⟨0, by simp, rfl, Nat.zero_le _, Below.refl _ _⟩
  case round =>
    obtain ⟨j, rfl, rfl, hj, hb⟩ := hrel
    by_cases hlt : j < n
    · rcases H.out with h | ⟨g, vs, rfl, hR, hvs⟩
      · omega
      · have c0 := (hb.cell (p := ⟨g, j * 2, none⟩) hR.lt).trans (hR.cell (hvs j hlt).1)
        have c1 := (hb.cell (p := ⟨g, j * 2 + 1, none⟩) hR.lt).trans (hR.cell (hvs j hlt).2)
        have hq : ((k + 2 * (j : Int)) == (k + 2 * (j : Int))) = true := by simp
        have hq1 : ((k + 2 * (j : Int) + 1) == (k + 2 * (j : Int) + 1)) = true := by simp
        clear hR hvs
        go_wp2
        go_roundw
        case rel => exact ⟨j + 1, by go_num, by go_num, by omega, hb⟩
        case measure => simp only [intOf]; omega
    · obtain rfl : j = n := by omega
      go_wp2
      go_ret
      exact ⟨rfl, hb⟩
/-- A slice of places that was appended to by one, as the operation runs it where an order is drawn. -/
theorem infoPl : (Tryz.prog.info? 59).map (fun i => (i.zero, i.size, i.bytes)) = some (some (.agg #[.int .i64 0, .int .i64 0]), 2, 16) := infoPlace
theorem cells_new2 (w : World) (x y : Value) (t : TypeId) : ∀ (j : Nat) (u : Value), [x, y][j]? = some u → (w.alloc (.cells #[x, y] t)).cell? ((⟨w.heap.size, 0, none⟩ : Addr).add j) = some u := by
  intro j u hu
  have hR := Row.new w [x, y] t
  have h2 : (⟨w.heap.size, 0, none⟩ : Addr).add j = ⟨w.heap.size, j, none⟩ := by
    unfold Addr.add
    split <;> simp_all
  rw [h2]
  exact hR.cell hu
theorem below_append2 {W w' : World} {base k n size : Nat} {e : TypeId} {v : Value} {xs : List Value} {o : Obj} (hrow : W.ownsRow base e size v k xs) (hg : (W.alloc o).grownBy w' v.ownBlock) (hb : n ≤ base) (hW : n ≤ W.heap.size) : Below n W w' := by
  refine ((Below.refl n W).alloc hW o).grown hg (by simp; omega) (fun r e => ?_)
  obtain ⟨_, h2 | ⟨g', cap, cur, hv, hB, _, _⟩⟩ := hrow
  · rw [h2.1] at e; simp [Value.ownBlock] at e
  · rw [hv] at e; simp only [Value.ownBlock, Option.some.injEq] at e; omega
/-- What a given list function of places answers, with a truth; the empty list may be one of its own. -/
def PlGot2 (ok : Prop) (l : List (Int × Int)) (w : World) (e : Ending) (w' : World) : Prop :=
  (¬ ok ∧ ∃ g, e = .returned (.tuple #[.slice (some ⟨g, 0, none⟩) 0 0, .bool false]) ∧ Below w.heap.size w w') ∨
  (ok ∧ ∃ v, e = .returned (.tuple #[v, .bool true]) ∧ w'.ownsRow w.heap.size 59 2 v l.length (placeCells l) ∧ Below w.heap.size w w')
def PlGot (ok : Prop) (l : List (Int × Int)) (w : World) (e : Ending) (w' : World) : Prop :=
  (¬ ok ∧ e = .returned (.tuple #[.slice none 0 0, .bool false]) ∧ Below w.heap.size w w') ∨
  (ok ∧ ∃ v, e = .returned (.tuple #[v, .bool true]) ∧ w'.ownsRow w.heap.size 59 2 v l.length (placeCells l) ∧ Below w.heap.size w w')
/-- What the given list functions of places leave. -/
def PlsGot (l : List (Int × Int)) (w : World) (e : Ending) (w' : World) : Prop := ∃ v, e = .returned v ∧ w'.ownsRow w.heap.size 59 2 v l.length (placeCells l) ∧ Below w.heap.size w w'
end Go.Proofs.YtgehpaojbnpbcaaGreatDoor
namespace Go.Proofs.YtgehpaojbnpbcaaGreatDoor
open Go Go.RowKit
/-- The copy of a graph, as the laws make it. -/
theorem toGraph_holds {ss : List Sc} (hF : Fair ss) {w0 : World} (oa : Option Addr) (cap : Nat) (hc : HoldsScopes w0 oa ss) {w : World} (hb : Below w0.heap.size w0 w) :
    Calls Tryz.prog 8 #[.agg #[.slice oa ss.length cap]] w fun e w' => ∃ g, e = .returned (.agg #[.slice (some ⟨g, 0, none⟩) ss.length ss.length]) ∧ HoldsScopes w' (some ⟨g, 0, none⟩) ss ∧ Below w.heap.size w w' :=
  (toGraph_any ss oa cap w hF.count hF.items (hc.below hb (Nat.le_refl _))).mono fun _ _ ⟨g, _, h1, _, _, h4, h5, h6⟩ => ⟨g, h1, h5.holds h4, h6⟩
theorem eqGraph_fair {ss : List Sc} (hF : Fair ss) {w1 w2 : World} {o1 o2 : Option Addr} {c1 c2 : Nat} {w : World} (h1 : HoldsScopes w1 o1 ss) (h2 : HoldsScopes w2 o2 ss) (hb1 : Below w1.heap.size w1 w) (hb2 : Below w2.heap.size w2 w) :
    Calls Tryz.prog 10 #[.agg #[.slice o1 ss.length c1], .agg #[.slice o2 ss.length c2]] w fun e w' => e = .returned (.bool true) ∧ Below w.heap.size w w' :=
  eqGraph_same ss o1 o2 c1 c2 w (by have := hF.count; omega) (fun s hs => by have := hF.items s hs; omega) (h1.below hb1 (Nat.le_refl _)) (h2.below hb2 (Nat.le_refl _))
theorem TreeErrs.at {w w' : World} (h : TreeErrs w) (hb : Below w.heap.size w w') : TreeErrs w' := h.below hb h.size
theorem belowS {w w1 w2 : World} (h : Below w.heap.size w w1) (k : Below w1.heap.size w1 w2) : Below w.heap.size w w2 := h.trans (k.mono h.size)
end Go.Proofs.YtgehpaojbnpbcaaGreatDoor
namespace Go.Proofs.YtgehpaojbnpbcaaGreatDoor
open Go Go.RowKit
theorem belowN {N : Nat} {a b c : World} (h : Below N a b) (k : Below b.heap.size b c) (hN : N ≤ a.heap.size) : Below N a c := h.trans (k.mono (Nat.le_trans hN h.size))
end Go.Proofs.YtgehpaojbnpbcaaGreatDoor
namespace Go.Proofs.YtgehpaojbnpbcaaGreatDoor
open Go Go.RowKit
/-- What both answer: the list and the truth, by the same rule. -/
def plVal (ok : Prop) (l : List (Int × Int)) (xs : List (Int × Int)) (b : Bool) : Prop := (¬ ok ∧ xs = [] ∧ b = false) ∨ (ok ∧ xs = l ∧ b = true)
theorem PlGot2.val {ok : Prop} {l : List (Int × Int)} {w w' : World} {e : Ending} (h : PlGot2 ok l w e w') : ∃ oa cap xs b, e = .returned (.tuple #[.slice oa xs.length cap, .bool b]) ∧ plVal ok l xs b ∧ ArgPlaces w' oa xs ∧ Below w.heap.size w w' := by
  rcases h with ⟨h1, g, rfl, hb⟩ | ⟨h1, v, rfl, hr, hb⟩
  · exact ⟨_, 0, [], false, rfl, .inl ⟨h1, rfl, rfl⟩, .inl rfl, hb⟩
  · obtain ⟨oa, cap, rfl, hh⟩ := argPlaces_of_owns hr
    exact ⟨oa, cap, _, true, rfl, .inr ⟨h1, rfl, rfl⟩, hh, hb⟩
theorem PlGot.val {ok : Prop} {l : List (Int × Int)} {w w' : World} {e : Ending} (h : PlGot ok l w e w') : ∃ oa cap xs b, e = .returned (.tuple #[.slice oa xs.length cap, .bool b]) ∧ plVal ok l xs b ∧ ArgPlaces w' oa xs ∧ OwnPl w' w.heap.size oa xs.length ∧ Below w.heap.size w w' := by
  rcases h with ⟨h1, rfl, hb⟩ | ⟨h1, v, rfl, hr, hb⟩
  · exact ⟨none, 0, [], false, rfl, .inl ⟨h1, rfl, rfl⟩, .inl rfl, .inl rfl, hb⟩
  · obtain ⟨oa, cap, rfl, hh⟩ := argPlaces_of_owns hr
    exact ⟨oa, cap, _, true, rfl, .inr ⟨h1, rfl, rfl⟩, hh, ownPl_of_owns hr, hb⟩
theorem plVal.same {ok : Prop} {l : List (Int × Int)} {xs ys : List (Int × Int)} {b c : Bool} (h : plVal ok l xs b) (k : plVal ok l ys c) : xs = ys ∧ b = c := by
  rcases h with ⟨h1, h2, h3⟩ | ⟨h1, h2, h3⟩ <;> rcases k with ⟨k1, k2, k3⟩ | ⟨k1, k2, k3⟩
  · exact ⟨by rw [h2, k2], by rw [h3, k3]⟩
  · exact absurd k1 h1
  · exact absurd h1 k1
  · exact ⟨by rw [h2, k2], by rw [h3, k3]⟩
theorem plVal.small {ok : Prop} {l : List (Int × Int)} {xs : List (Int × Int)} {b : Bool} (h : plVal ok l xs b) (hl : ok → l.length ≤ 1000) : xs.length ≤ 1000 := by
  rcases h with ⟨_, h2, _⟩ | ⟨h1, h2, _⟩
  · rw [h2]; simp
  · rw [h2]; exact hl h1
theorem ArgPlaces.mid_own {b0 b1 B : Nat} {w w' : World} {oa : Option Addr} {xs : List (Int × Int)} (h : ArgPlaces w oa xs) (ho : OwnPl w B oa xs.length) (hB : b1 ≤ B) (hm : Mid b0 b1 w w') : ArgPlaces w' oa xs := by
  rcases h with h | ⟨b, off, q1, q2, q3⟩
  · exact .inl h
  · rcases ho with h0 | ⟨g, vs, p1, p2, p3, p4⟩
    · exact .inl (List.eq_nil_of_length_eq_zero h0)
    · rw [p1] at q1
      cases q1
      refine .inr ⟨_, 0, p1, Nat.lt_of_lt_of_le q2 hm.size, fun i x hx => ?_⟩
      exact ⟨(World.cell?_of_block (hm.rest _ q2 (.inr (Nat.le_trans hB p2)))).trans (q3 i x hx).1, (World.cell?_of_block (hm.rest _ q2 (.inr (Nat.le_trans hB p2)))).trans (q3 i x hx).2⟩
theorem OwnPl.mid {b0 b1 B n : Nat} {w w' : World} {oa : Option Addr} (h : OwnPl w B oa n) (hB : b1 ≤ B) (hm : Mid b0 b1 w w') : OwnPl w' B oa n := by
  rcases h with h | ⟨g, vs, q1, q2, q3, q4⟩
  · exact .inl h
  · exact .inr ⟨g, vs, q1, q2, hm.row q3 (.inr (by omega)), q4⟩
end Go.Proofs.YtgehpaojbnpbcaaGreatDoor
namespace Go.Proofs.YtgehpaojbnpbcaaGreatDoor
open Go Go.RowKit Go.Maps
/-- The item at a place. -/
def itemAtP (ss : List Sc) (a b : Int) : Option It := if 0 ≤ a ∧ 0 ≤ b then (ss[a.toNat]?).bind fun s => s.items[b.toNat]? else none
def itemHas (ss : List Sc) (a b : Int) : Prop := Valid ss ∧ (itemAtP ss a b).isSome = true
theorem itemAtP_nat {ss : List Sc} {i j : Nat} {s : Sc} (hs : ss[i]? = some s) : itemAtP ss (i : Int) (j : Int) = s.items[j]? := by
  unfold itemAtP
  rw [if_pos ⟨by omega, by omega⟩]
  simp [hs]
theorem itemAtP_out {ss : List Sc} {a b : Int} (h : inB a 0 ((ss.length : Int) - 1) = false) : itemAtP ss a b = none := by
  unfold itemAtP
  split
  · rename_i h0
    have : ¬ a ≤ (ss.length : Int) - 1 := by intro hle; simp [inB, h0.1, hle] at h
    rw [List.getElem?_eq_none (by omega)]; rfl
  · rfl
theorem itemAtP_out2 {ss : List Sc} {i : Nat} {s : Sc} {b : Int} (hs : ss[i]? = some s) (h : inB b 0 ((s.items.length : Int) - 1) = false) : itemAtP ss (i : Int) b = none := by
  unfold itemAtP
  split
  · rename_i h0
    have : ¬ b ≤ (s.items.length : Int) - 1 := by intro hle; simp [inB, h0.2, hle] at h
    simp only [Int.toNat_natCast, hs, Option.bind_some]
    rw [List.getElem?_eq_none (by omega)]
  · rfl
theorem l1In_below (n lo hi : Int) (w : World) : Calls Tryz.prog 88 #[.int .i64 n, .int .i64 lo, .int .i64 hi] w fun e w' => e = .returned (.bool (inB n lo hi)) ∧ Below w.heap.size w w' :=
  (l1In_any n lo hi w).mono fun _ _ ⟨h, k⟩ => ⟨h, by rw [k]; exact Below.refl _ _⟩
set_option maxRecDepth 100000 in
set_option maxHeartbeats 400000 in
theorem specHas_any (ss : List Sc) (hf : FitsScopes ss) (oa : Option Addr) (cap : Nat) (a b : Int) (w : World) (hc : HoldsScopes w oa ss) :
    Calls Tryz.prog 136 #[.agg #[.slice oa ss.length cap], .agg #[.int .i64 a, .int .i64 b]] w fun e w' => e = .returned (.bool (itemAtP ss a b).isSome) ∧ Below w.heap.size w w' := by
  have hb0 : Below w.heap.size w ((w.alloc (.cells #[.slice oa ss.length cap] 28)).alloc (.cells #[.int .i64 a, .int .i64 b] 59)) := ((Below.refl _ _).alloc (Nat.le_refl _) _).alloc (by simp) _
  have HB0 := Lib.hid hb0
  have HC := Lib.hid (hc.below hb0 (Nat.le_refl _))
  have hl := hf.1
  have HF := Lib.hid hf
  have RG := Lib.hid ((Row.new w [.slice oa ss.length cap] 28).alloc (.cells #[.int .i64 a, .int .i64 b] 59))
  have RP : Hid (Row ((w.alloc (.cells #[.slice oa ss.length cap] 28)).alloc (.cells #[.int .i64 a, .int .i64 b] 59)) (w.heap.size + 1) 59 [.int .i64 a, .int .i64 b]) := Lib.hid (by
    have := Row.new (w.alloc (.cells #[.slice oa ss.length cap] 28)) [.int .i64 a, .int .i64 b] 59
    rw [World.size_alloc] at this
    exact this)
  clear hf hc hb0
  cases h1 : inB a 0 ((ss.length : Int) - 1) with
  | false =>
    have HR : Hid ((itemAtP ss a b).isSome = false) := Lib.hid (by rw [itemAtP_out h1]; rfl)
    have C1 : ∀ W, Calls Tryz.prog 88 #[.int .i64 a, .int .i64 0, .int .i64 ((ss.length : Int) - 1)] W fun e w' => e = .returned (.bool false) ∧ Below W.heap.size W w' := fun W => by rw [← h1]; exact l1In_below _ _ _ _
    have HC1 := Lib.hid C1
    have hw1 : IntKind.i64.wrap (((ss.length : Nat) : Int) - 1) = ((ss.length : Nat) : Int) - 1 := IntWalk.i64_in _ (by omega)
    clear C1 h1
    go_enter Tryz.func136, Tryz.ntmps136
    go_wp2
    have g0 := cell_regrown (RG.out.cell (i := 0) (by rfl))
    have p0 := cell_regrown (RP.out.cell (i := 0) (by rfl))
    have cE := fun d os => Calls.regrown_of (w := (w.alloc (.cells #[.slice oa ss.length cap] 28)).alloc (.cells #[.int .i64 a, .int .i64 b] 59)) (d := d) (os := os) (HC1.out _)
    refine wp_region_quiet_below (by kernel_rfl) (by kernel_rfl) ?_
    repeat (first | go_big_quiet_step (exact cE _ _) | quiet_step (exact cE _ _))
    refine wpQuiet_nil ?_
    intro _ hw'
    obtain ⟨⟨dq, osq⟩, hw''⟩ := hw'
    subst hw''
    have HBE := Lib.hid (HB0.out.trans ((below_regrown ((w.alloc (.cells #[.slice oa ss.length cap] 28)).alloc (.cells #[.int .i64 a, .int .i64 b] 59)) dq osq).mono HB0.out.size))
    go_wp2
    go_ret
    exact ⟨by rw [HR.out]; rfl, HBE.out⟩
  | true =>
    obtain ⟨i, rfl⟩ : ∃ i : Nat, a = (i : Int) := ⟨a.toNat, by simp [inB] at h1; omega⟩
    have hi : i < ss.length := by simp [inB] at h1; omega
    obtain ⟨s, hs⟩ : ∃ s, ss[i]? = some s := ⟨_, List.getElem?_eq_getElem hi⟩
    obtain ⟨bb, off, rfl, hbb, hcell⟩ := HC.out.at (by omega)
    obtain ⟨oi, ci, a0, a1, -⟩ := hcell i s hs
    have hsl := (HF.out.2 s (List.mem_of_getElem? hs)).1
    have HR : Hid ((itemAtP ss (i : Int) b).isSome = inB b 0 ((s.items.length : Int) - 1)) := Lib.hid (by
      cases h2 : inB b 0 ((s.items.length : Int) - 1) with
      | false => rw [itemAtP_out2 hs h2]; rfl
      | true =>
        simp only [inB, Bool.and_eq_true, decide_eq_true_eq] at h2
        obtain ⟨j, rfl⟩ : ∃ j : Nat, b = (j : Int) := ⟨b.toNat, by omega⟩
        rw [itemAtP_nat hs, List.getElem?_eq_getElem (by omega)]; rfl)
    have C1 : ∀ W, Calls Tryz.prog 88 #[.int .i64 (i : Int), .int .i64 0, .int .i64 ((ss.length : Int) - 1)] W fun e w' => e = .returned (.bool true) ∧ Below W.heap.size W w' := fun W => by rw [← h1]; exact l1In_below _ _ _ _
    have HC1 := Lib.hid C1
    have hw1 : IntKind.i64.wrap (((ss.length : Nat) : Int) - 1) = ((ss.length : Nat) : Int) - 1 := IntWalk.i64_in _ (by omega)
    have hw2 : IntKind.i64.wrap (((s.items.length : Nat) : Int) - 1) = ((s.items.length : Nat) : Int) - 1 := IntWalk.i64_in _ (by omega)
    have HS := Lib.hid hs
    clear C1 h1 hcell hs
    generalize hq : inB b 0 ((s.items.length : Int) - 1) = q at HR
    have C2 : ∀ W, Calls Tryz.prog 88 #[.int .i64 b, .int .i64 0, .int .i64 ((s.items.length : Int) - 1)] W fun e w' => e = .returned (.bool q) ∧ Below W.heap.size W w' := fun W => by rw [← hq]; exact l1In_below _ _ _ _
    have HC2 := Lib.hid C2
    clear C2 hq
    go_enter Tryz.func136, Tryz.ntmps136
    go_wp2
    have g0 := cell_regrown (RG.out.cell (i := 0) (by rfl))
    have p0 := cell_regrown (RP.out.cell (i := 0) (by rfl))
    have p1 := cell_regrown (RP.out.cell (i := 1) (by rfl))
    have s1 := cell_regrown a1
    have cE := fun d os => Calls.regrown_of (w := (w.alloc (.cells #[.slice (some ⟨bb, off, none⟩) ss.length cap] 28)).alloc (.cells #[.int .i64 (i : Int), .int .i64 b] 59)) (d := d) (os := os) (HC1.out _)
    have cF := fun d os => Calls.regrown_of (w := (w.alloc (.cells #[.slice (some ⟨bb, off, none⟩) ss.length cap] 28)).alloc (.cells #[.int .i64 (i : Int), .int .i64 b] 59)) (d := d) (os := os) (HC2.out _)
    clear a0 a1
    refine wp_region_quiet_below (by kernel_rfl) (by kernel_rfl) ?_
    repeat (first | go_big_quiet_step (with_reducible first | exact cE _ _ | exact cF _ _) | quiet_step (with_reducible first | exact cE _ _ | exact cF _ _))
    refine wpQuiet_nil ?_
    intro _ hw'
    obtain ⟨⟨dq, osq⟩, hw''⟩ := hw'
    subst hw''
    have HBE := Lib.hid (HB0.out.trans ((below_regrown ((w.alloc (.cells #[.slice (some ⟨bb, off, none⟩) ss.length cap] 28)).alloc (.cells #[.int .i64 (i : Int), .int .i64 b] 59)) dq osq).mono HB0.out.size))
    go_wp2
    go_ret
    exact ⟨by rw [HR.out]; rfl, HBE.out⟩
def itV (x : It) : Value := .agg #[.int .i64 x.kind, .string x.name, .int .i64 x.scope]
def zeroIt : It := ⟨0, ⟨#[]⟩, 0⟩
set_option maxRecDepth 100000 in
set_option maxHeartbeats 1000000 in
theorem specAt_any (ss : List Sc) (hf : FitsScopes ss) (oa : Option Addr) (cap : Nat) (i j : Nat) (s : Sc) (x : It) (hs : ss[i]? = some s) (hx : s.items[j]? = some x) (w : World) (hc : HoldsScopes w oa ss) :
    Calls Tryz.prog 85 #[.agg #[.slice oa ss.length cap], .agg #[.int .i64 (i : Int), .int .i64 (j : Int)]] w fun e w' => e = .returned (itV x) ∧ Below w.heap.size w w' := by
  have hi := (List.getElem?_eq_some_iff.1 hs).1
  have hj := (List.getElem?_eq_some_iff.1 hx).1
  have hl := hf.1
  have hl2 := (hf.2 s (List.mem_of_getElem? hs)).1
  have hb0 : Below w.heap.size w (((w.alloc (.cells #[.slice oa ss.length cap] 28)).alloc (.cells #[.int .i64 (i : Int), .int .i64 (j : Int)] 59)).alloc (.cells #[.int .i64 0, .string ⟨#[]⟩, .int .i64 0] 137)) := (((Below.refl _ _).alloc (Nat.le_refl _) _).alloc (by simp) _).alloc (by simp; omega) _
  obtain ⟨bb, off, rfl, hbb, hcell⟩ := hc.at (by omega)
  obtain ⟨oi, ci, a0, a1, hci⟩ := hcell i s hs
  obtain ⟨b2, o2, rfl, hb2, hcell2⟩ := hci.at (by omega)
  obtain ⟨x0, x1, x2⟩ := hcell2 j x hx
  have a1' := (hb0.cell (p := ⟨bb, off + i * 2 + 1, none⟩) hbb).trans a1
  have x0' := (hb0.cell (p := ⟨b2, o2 + j * 3, none⟩) hb2).trans x0
  have x1' := (hb0.cell (p := ⟨b2, o2 + j * 3 + 1, none⟩) hb2).trans x1
  have x2' := (hb0.cell (p := ⟨b2, o2 + j * 3 + 2, none⟩) hb2).trans x2
  have HB0 := Lib.hid hb0
  clear hf hc hcell hcell2 hci hs hx a0 a1 x0 x1 x2 hb0
  go_enter Tryz.func85, Tryz.ntmps85
  go_wp2
  go_region
  all_goals go_wp2
  refine bodyPost_ret (v := itV x) (by simp [results, Tryz.results85, go_sem, itV]) rfl ⟨rfl, ?_⟩
  first
    | exact ((((Below.refl w.heap.size w).alloc (Nat.le_refl _) _).alloc (by simp) _).alloc (by simp; omega) _).drew
    | exact HB0.out.drew.setCell (by simp) _
/-- What the map of items says of a place. -/
theorem look_item {ss : List Sc} (h : Small ss) {a b : Int} (ha : (Lit.int .i64 a).wf = true) (hb : (Lit.int .i64 b).wf = true) :
    Maps.has (itemsD (placed 0 ss)) (plLit a b) = (itemAtP ss a b).isSome ∧ (itemsD (placed 0 ss)).atKey (plLit a b) (itemD zeroIt) = itemD ((itemAtP ss a b).getD zeroIt) := by
  have hh := itemsD_has h ha hb
  cases hx : itemAtP ss a b with
  | some x =>
    have hx' := hx
    unfold itemAtP at hx'
    split at hx'
    case isFalse => cases hx'
    rename_i h0
    obtain ⟨i, rfl⟩ : ∃ i : Nat, a = (i : Int) := ⟨a.toNat, by omega⟩
    obtain ⟨j, rfl⟩ : ∃ j : Nat, b = (j : Int) := ⟨b.toNat, by omega⟩
    simp only [Int.toNat_natCast] at hx'
    obtain ⟨s, hs, hj⟩ := Option.bind_eq_some_iff.1 hx'
    exact ⟨hh.2 ⟨i, j, s, x, rfl, rfl, hs, hj⟩, itemsD_at h hs hj _⟩
  | none =>
    have hno : ¬ ∃ (k j : Nat) (s : Sc) (x : It), a = (k : Int) ∧ b = (j : Int) ∧ ss[k]? = some s ∧ s.items[j]? = some x := by
      rintro ⟨k, j, s, x, rfl, rfl, hs, hj⟩
      rw [itemAtP_nat hs, hj] at hx
      cases hx
    refine ⟨by simpa using fun e => hno (hh.1 e), ?_⟩
    unfold itemsD
    rw [putInto_other plKey itVal (plLit a b) (itemD zeroIt) (placed 0 ss) (.map []) (fun q hq he => hno ?_)]
    · rfl
    · have h1 := h.lt hq
      obtain ⟨e1, e2⟩ := plLit_inj (wf_small h1.1) (wf_small h1.2) ha hb he
      obtain ⟨s, _, h2, h3⟩ := mem_placed.1 hq
      exact ⟨q.1, q.2.1, s, q.2.2, e1.symm, e2.symm, by simpa using h2, h3⟩
theorem itemR_eq {v : Value} {x : It} {ps : List MemPlace} (h : itemR v = some (itemD x, ps)) : v = itV x := by
  unfold itemR at h
  split at h
  · split at h
    · rename_i cs _ a s b he
      have hcs : cs = #[.int .i64 a, .string s, .int .i64 b] := by rw [← he]
      simp only [itemD, Option.some.injEq, Prod.mk.injEq, DataW.agg.injEq, List.cons.injEq, DataW.lit.injEq, Lit.int.injEq, Lit.string.injEq, true_and, and_true] at h
      obtain ⟨⟨h1, h2, h3⟩, _⟩ := h
      have hs : s = x.name := by apply ByteArray.ext; exact Array.toList_inj.1 h2
      rw [hcs, h1, hs, h3]; rfl
    · cases h
  · cases h
theorem zeroItem (w : World) : (zeroValue 137).run Tryz.prog w = .ok (itV zeroIt) w := by kernel_rfl
end Go.Proofs.YtgehpaojbnpbcaaGreatDoor
namespace Go.Proofs.YtgehpaojbnpbcaaGreatDoor
open Go Go.RowKit
end Go.Proofs.YtgehpaojbnpbcaaGreatDoor
