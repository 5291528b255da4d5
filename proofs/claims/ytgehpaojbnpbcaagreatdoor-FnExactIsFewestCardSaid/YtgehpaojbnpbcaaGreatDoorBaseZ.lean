/-
  Numbers of 64 bits. Plain facts. A block of memory known whole, and what stores, new blocks and draws leave of it. Plain facts about worlds. Graphs as plain data, and what it says that memory holds one. Plain facts. What a valid graph is, as plain data, and how a walk over its items in order comes to it. Plain facts. What all texts of this program share: blocks that lie as they lay, package-level errors, a slice of structs that comes in as an argument opened to its cells. Plain facts. What it says that memory holds a tree: the record, its row of pointers, a block for each node. Plain facts. Maps keyed by places and by scopes: what their keys read as. Plain facts.
-/
import Derived.WalkKit
import Derived.WalkSmall
import Derived.Test.YtgehpaojbnpbcaaGreatDoorProg
import Derived.Lib.Hide
import Derived.Lib.SmallJoins
import Derived.Deep.Slices
import Derived.Deep.Fields
import Derived.ChangeSame
import Derived.ProofKit
import Derived.OpenShut
import Derived.Maps.OwnSet
import Derived.Maps.OwnIn
import Derived.Maps.Views
import Derived.DeepKeys4
namespace Go.Proofs.YtgehpaojbnpbcaaGreatDoor.Sg
/-- A number of 64 bits. -/
def I64 (n : Int) : Prop := -9223372036854775808 ≤ n ∧ n ≤ 9223372036854775807
end Go.Proofs.YtgehpaojbnpbcaaGreatDoor.Sg
namespace Go.Proofs.YtgehpaojbnpbcaaGreatDoor
open Go Go.RowKit
/-- Block g holds just the cells vs of type t, none of them frozen. -/
def Row (w : World) (g : Nat) (t : TypeId) (vs : List Value) : Prop := w.heap[g]? = some (.cells vs.toArray t (0, 0))
theorem Row.lt {w : World} {g : Nat} {t : TypeId} {vs : List Value} (h : Row w g t vs) : g < w.heap.size := (Array.getElem?_eq_some_iff.1 h).1
theorem Row.cell {w : World} {g : Nat} {t : TypeId} {vs : List Value} (h : Row w g t vs) {i : Nat} {v : Value} (hi : vs[i]? = some v) : w.cell? ⟨g, i, none⟩ = some v := by
  unfold Row at h
  simp [World.cell?, h, hi]
theorem Row.frozen {w : World} {g : Nat} {t : TypeId} {vs : List Value} (h : Row w g t vs) (i : Nat) : w.frozen? ⟨g, i, none⟩ = false := by
  unfold Row at h
  simp [World.frozen?, h]
theorem Row.set {w : World} {g : Nat} {t : TypeId} {vs : List Value} (h : Row w g t vs) (i : Nat) (v : Value) : Row (w.setCell ⟨g, i, none⟩ v) g t (vs.set i v) := by
  unfold Row at h ⊢
  simp [World.setCell, Array.getElem?_modify, h]
theorem Row.other {w : World} {g : Nat} {t : TypeId} {vs : List Value} (h : Row w g t vs) {a : Addr} (ha : a.block ≠ g) (v : Value) : Row (w.setCell a v) g t vs := by
  unfold Row at h ⊢
  rw [Below.heap_setCell _ _ _ _ (Ne.symm ha)]
  exact h
theorem Row.below {w w' : World} {B g : Nat} {t : TypeId} {vs : List Value} (h : Row w g t vs) (hb : Below B w w') (hg : g < B) : Row w' g t vs := by
  unfold Row at h ⊢
  rw [hb.block g hg]; exact h
theorem Row.alloc {w : World} {g : Nat} {t : TypeId} {vs : List Value} (h : Row w g t vs) (o : Obj) : Row (w.alloc o) g t vs :=
  h.below ((Below.refl w.heap.size w).alloc (Nat.le_refl _) o) h.lt
theorem Row.drew {w : World} {g : Nat} {t : TypeId} {vs : List Value} (h : Row w g t vs) : Row w.drew g t vs := h
theorem Row.new (w : World) (vs : List Value) (t : TypeId) : Row (w.alloc (.cells vs.toArray t)) w.heap.size t vs := by
  unfold Row
  rw [World.alloc, Array.getElem?_push]; simp
/-- A slice that was made whole. -/
theorem Row.of_owns {w : World} {g n cap size : Nat} {e : TypeId} {B : Nat} {vs : List Value} (h : w.ownsRow B e size (.slice (some ⟨g, 0, none⟩) n cap) n vs) (hc : cap = n) : Row w g e vs := by
  subst hc
  obtain ⟨hl, h | ⟨g', cap', cur, hv, _, hh, _, _, hs, ht⟩⟩ := h
  · exact absurd h.1 (by simp)
  · simp only [Value.slice.injEq, Option.some.injEq, Addr.mk.injEq, and_true] at hv
    obtain ⟨rfl, _, rfl⟩ := hv
    unfold Row
    rw [hh]
    have : cur.toList = vs := by rw [← ht, List.take_of_length_le]; rw [Array.length_toList]; omega
    rw [← this]
end Go.Proofs.YtgehpaojbnpbcaaGreatDoor
namespace Go.Proofs.YtgehpaojbnpbcaaGreatDoor
open Go Go.RowKit
/-- An item, a scope; a graph is a list of scopes. -/
structure It where
  kind : Int
  name : ByteArray
  scope : Int
structure Sc where
  parent : Int
  items : List It
/-- A slice's cells hold these items. -/
def HoldsItems (w : World) (oa : Option Addr) (xs : List It) : Prop :=
  xs = [] ∨ ∃ b off, oa = some ⟨b, off, none⟩ ∧ b < w.heap.size ∧ ∀ i x, xs[i]? = some x →
    w.cell? ⟨b, off + i * 3, none⟩ = some (.int .i64 x.kind) ∧ w.cell? ⟨b, off + i * 3 + 1, none⟩ = some (.string x.name) ∧ w.cell? ⟨b, off + i * 3 + 2, none⟩ = some (.int .i64 x.scope)
/-- A slice's cells hold these scopes. -/
def HoldsScopes (w : World) (oa : Option Addr) (ss : List Sc) : Prop :=
  ss = [] ∨ ∃ b off, oa = some ⟨b, off, none⟩ ∧ b < w.heap.size ∧ ∀ i s, ss[i]? = some s →
    ∃ (oi : Option Addr) (ci : Nat), w.cell? ⟨b, off + i * 2, none⟩ = some (.int .i64 s.parent) ∧ w.cell? ⟨b, off + i * 2 + 1, none⟩ = some (.slice oi s.items.length ci) ∧ HoldsItems w oi s.items
theorem HoldsItems.below {w w' : World} {B : Nat} {oa : Option Addr} {xs : List It} (h : HoldsItems w oa xs) (hb : Below B w w') (hB : w.heap.size ≤ B) : HoldsItems w' oa xs := by
  rcases h with h | ⟨b, off, h1, h2, h3⟩
  · exact .inl h
  · refine .inr ⟨b, off, h1, Nat.lt_of_lt_of_le h2 hb.size, fun i x hx => ?_⟩
    obtain ⟨k0, k1, k2⟩ := h3 i x hx
    exact ⟨(hb.cell (p := ⟨b, _, none⟩) (Nat.lt_of_lt_of_le h2 hB)).trans k0, (hb.cell (p := ⟨b, _, none⟩) (Nat.lt_of_lt_of_le h2 hB)).trans k1, (hb.cell (p := ⟨b, _, none⟩) (Nat.lt_of_lt_of_le h2 hB)).trans k2⟩
theorem HoldsScopes.below {w w' : World} {B : Nat} {oa : Option Addr} {ss : List Sc} (h : HoldsScopes w oa ss) (hb : Below B w w') (hB : w.heap.size ≤ B) : HoldsScopes w' oa ss := by
  rcases h with h | ⟨b, off, h1, h2, h3⟩
  · exact .inl h
  · refine .inr ⟨b, off, h1, Nat.lt_of_lt_of_le h2 hb.size, fun i s hs => ?_⟩
    obtain ⟨oi, ci, k0, k1, k2⟩ := h3 i s hs
    exact ⟨oi, ci, (hb.cell (p := ⟨b, _, none⟩) (Nat.lt_of_lt_of_le h2 hB)).trans k0, (hb.cell (p := ⟨b, _, none⟩) (Nat.lt_of_lt_of_le h2 hB)).trans k1, k2.below hb hB⟩
/-- How heavy items, scopes are: one a part, and the letters of names. -/
def wItems : List It → Nat
  | [] => 0
  | x :: r => 1 + x.name.size + wItems r
def wScopes : List Sc → Nat
  | [] => 0
  | s :: r => 1 + wItems s.items + wScopes r
def nItems : List It → Nat
  | [] => 0
  | x :: r => x.name.size + nItems r
def nScopes : List Sc → Nat
  | [] => 0
  | s :: r => wItems s.items + nScopes r
theorem wItems_eq (xs : List It) : wItems xs = xs.length + nItems xs := by
  induction xs with
  | nil => rfl
  | cons x r ih => simp only [wItems, nItems, List.length_cons, ih]; omega
theorem wScopes_eq (ss : List Sc) : wScopes ss = ss.length + nScopes ss := by
  induction ss with
  | nil => rfl
  | cons x r ih => simp only [wScopes, nScopes, List.length_cons, ih]; omega
theorem nItems_snoc (xs : List It) (x : It) : nItems (xs ++ [x]) = nItems xs + x.name.size := by
  induction xs with
  | nil => simp [nItems]
  | cons y r ih => simp only [List.cons_append, nItems, ih]; omega
theorem nScopes_snoc (ss : List Sc) (s : Sc) : nScopes (ss ++ [s]) = nScopes ss + wItems s.items := by
  induction ss with
  | nil => simp [nScopes]
  | cons y r ih => simp only [List.cons_append, nScopes, ih]; omega
theorem nItems_step {xs : List It} {k : Nat} {x : It} (h : xs[k]? = some x) : nItems (xs.take (k + 1)) = nItems (xs.take k) + x.name.size := by
  rw [List.take_add_one, h]; exact nItems_snoc _ _
theorem nScopes_step {ss : List Sc} {k : Nat} {s : Sc} (h : ss[k]? = some s) : nScopes (ss.take (k + 1)) = nScopes (ss.take k) + wItems s.items := by
  rw [List.take_add_one, h]; exact nScopes_snoc _ _
theorem nItems_take_le : ∀ (xs : List It) (k : Nat), nItems (xs.take k) ≤ nItems xs
  | [], k => by simp
  | x :: r, 0 => by simp [nItems]
  | x :: r, k + 1 => by simp only [List.take_succ_cons, nItems]; have := nItems_take_le r k; omega
theorem nScopes_take_le : ∀ (ss : List Sc) (k : Nat), nScopes (ss.take k) ≤ nScopes ss
  | [], k => by simp
  | x :: r, 0 => by simp [nScopes]
  | x :: r, k + 1 => by simp only [List.take_succ_cons, nScopes]; have := nScopes_take_le r k; omega
/-- What is left of a bound behind a weight: -1 where it is passed. -/
def rest (left : Int) (n : Nat) : Int := if (n : Int) ≤ left then left - n else -1
theorem rest_neg {left : Int} {n : Nat} (h : left < n) : rest left n = -1 := by unfold rest; rw [if_neg (by omega)]
theorem rest_pos {left : Int} {n : Nat} (h : (n : Int) ≤ left) : rest left n = left - n := by unfold rest; rw [if_pos h]
end Go.Proofs.YtgehpaojbnpbcaaGreatDoor
namespace Go.Proofs.YtgehpaojbnpbcaaGreatDoor
open Go Go.RowKit
def inB (n lo hi : Int) : Bool := decide (lo ≤ n) && decide (n ≤ hi)
/-- One letter from a to z. -/
def nameB (s : ByteArray) : Bool :=
  match s.data.toList with
  | [b] => inB (b.toNat : Int) 97 122
  | _ => false
def itemB (x : It) : Bool := nameB x.name && inB x.kind 1 3 && (x.scope == -1 || x.kind == 1)
def parentB (i : Nat) (p : Int) : Bool := if i = 0 then p == -1 else inB p 0 ((i : Int) - 1)
/-- A scope by itself. -/
def scopeB (i : Nat) (s : Sc) : Bool := decide (s.items.length ≤ 5) && parentB i s.parent
/-- An item where it stands: if it is a module, its scope is one whose parent is where it stands. -/
def modB (ss : List Sc) (i : Nat) (x : It) : Bool := x.scope == -1 || (inB x.scope ((i : Int) + 1) ((ss.length : Int) - 1) && (ss[x.scope.toNat]?.map Sc.parent == some (i : Int)))
/-- The scopes of the modules among items. -/
def modsOf (xs : List It) : List Int := (xs.filter fun x => x.scope != -1).map It.scope
/-- All items with their scopes' numbers from i on, in order. -/
def flat (i : Nat) : List Sc → List (Nat × It)
  | [] => []
  | s :: r => s.items.map (fun x => (i, x)) ++ flat (i + 1) r
def goodItems (ss : List Sc) (l : List (Nat × It)) : Prop := (∀ q ∈ l, itemB q.2 = true ∧ modB ss q.1 q.2 = true) ∧ (modsOf (l.map Prod.snd)).Nodup
structure Valid (ss : List Sc) : Prop where
  count : 1 ≤ ss.length ∧ ss.length ≤ 6
  scopes : ∀ i s, ss[i]? = some s → scopeB i s = true
  items : goodItems ss (flat 0 ss)
theorem modsOf_append (a b : List It) : modsOf (a ++ b) = modsOf a ++ modsOf b := by simp [modsOf]
theorem modsOf_one (x : It) : modsOf [x] = if x.scope = -1 then [] else [x.scope] := by
  by_cases h : x.scope = -1 <;> simp [modsOf, h]
theorem goodItems.ahead {ss : List Sc} {a b : List (Nat × It)} (h : goodItems ss (a ++ b)) : goodItems ss a := by
  refine ⟨fun q hq => h.1 q (List.mem_append_left _ hq), ?_⟩
  have := h.2
  rw [List.map_append, modsOf_append] at this
  exact (List.nodup_append.1 this).1
theorem goodItems.nil (ss : List Sc) : goodItems ss [] := ⟨(fun q hq => by cases hq), by simp [modsOf]⟩
theorem goodItems.snoc {ss : List Sc} {a : List (Nat × It)} {i : Nat} {x : It} (h : goodItems ss a) (h1 : itemB x = true) (h2 : modB ss i x = true) (h3 : x.scope = -1 ∨ x.scope ∉ modsOf (a.map Prod.snd)) : goodItems ss (a ++ [(i, x)]) := by
  refine ⟨fun q hq => ?_, ?_⟩
  · rcases List.mem_append.1 hq with hq | hq
    · exact h.1 q hq
    · simp at hq; subst hq; exact ⟨h1, h2⟩
  · rw [List.map_append, modsOf_append]
    simp only [List.map_cons, List.map_nil, modsOf_one]
    by_cases hx : x.scope = -1
    · rw [if_pos hx, List.append_nil]; exact h.2
    · rw [if_neg hx, List.nodup_append]
      refine ⟨h.2, by simp, fun a ha b hb => ?_⟩
      simp at hb; subst hb
      rintro rfl
      rcases h3 with h3 | h3
      · exact hx h3
      · exact h3 ha
theorem goodItems.last {ss : List Sc} {a : List (Nat × It)} {i : Nat} {x : It} (h : goodItems ss (a ++ [(i, x)])) : itemB x = true ∧ modB ss i x = true ∧ (x.scope = -1 ∨ x.scope ∉ modsOf (a.map Prod.snd)) := by
  obtain ⟨h1, h2⟩ := h.1 (i, x) (by simp)
  refine ⟨h1, h2, ?_⟩
  by_cases hx : x.scope = -1
  · exact .inl hx
  · right
    have := h.2
    rw [List.map_append, modsOf_append] at this
    simp only [List.map_cons, List.map_nil, modsOf_one, if_neg hx] at this
    intro hm
    exact (List.nodup_append.1 this).2.2 _ hm _ (by simp) rfl
theorem flat_append (i : Nat) : ∀ (a b : List Sc), flat i (a ++ b) = flat i a ++ flat (i + a.length) b
  | [], b => by simp [flat]
  | s :: r, b => by
    simp only [List.cons_append, flat, flat_append (i + 1) r b, List.append_assoc, List.length_cons]
    rw [show i + 1 + r.length = i + (r.length + 1) from by omega]
/-- The items ahead of the j-th of the k-th scope. -/
def upto (ss : List Sc) (k j : Nat) : List (Nat × It) := flat 0 (ss.take k) ++ (((ss[k]?.map Sc.items).getD []).take j).map fun x => (k, x)
theorem upto_zero (ss : List Sc) (k : Nat) : upto ss k 0 = flat 0 (ss.take k) := by simp [upto]
theorem upto_start (ss : List Sc) : upto ss 0 0 = [] := by simp [upto, flat]
theorem upto_next {ss : List Sc} {k j : Nat} {s : Sc} {x : It} (hs : ss[k]? = some s) (hx : s.items[j]? = some x) : upto ss k (j + 1) = upto ss k j ++ [(k, x)] := by
  simp only [upto, hs, Option.map_some, Option.getD_some]
  rw [List.take_add_one, hx]
  simp
theorem upto_scope {ss : List Sc} {k : Nat} {s : Sc} (hs : ss[k]? = some s) : upto ss k s.items.length = upto ss (k + 1) 0 := by
  have hk := (List.getElem?_eq_some_iff.1 hs).1
  rw [upto_zero, List.take_add_one, hs, flat_append]
  simp only [upto, hs, Option.map_some, Option.getD_some, List.take_length, Option.toList_some, flat, List.append_nil, List.length_take]
  rw [show 0 + min k ss.length = k from by omega]
theorem upto_all (ss : List Sc) : upto ss ss.length 0 = flat 0 ss := by rw [upto_zero, List.take_length]
/-- What lies ahead of an item is a beginning of all. -/
theorem upto_prefix {ss : List Sc} {k j : Nat} {s : Sc} (hs : ss[k]? = some s) : ∃ t, flat 0 ss = upto ss k j ++ t := by
  have hk := (List.getElem?_eq_some_iff.1 hs).1
  have e : ss = ss.take k ++ s :: ss.drop (k + 1) := by
    have h1 := List.drop_eq_getElem_cons hk
    rw [(List.getElem?_eq_some_iff.1 hs).2] at h1
    rw [← h1, List.take_append_drop]
  refine ⟨((s.items.drop j).map fun x => (k, x)) ++ flat (k + 1) (ss.drop (k + 1)), ?_⟩
  conv => lhs; rw [e, flat_append]
  simp only [flat, upto, hs, Option.map_some, Option.getD_some, List.length_take]
  rw [show 0 + min k ss.length = k from by omega, List.append_assoc]
  congr 1
  rw [← List.append_assoc, ← List.map_append, List.take_append_drop]
/-- A valid graph's items are good wherever a walk stands. -/
theorem Valid.upto {ss : List Sc} (h : Valid ss) {k j : Nat} {s : Sc} (hs : ss[k]? = some s) : goodItems ss (upto ss k j) := by
  obtain ⟨t, ht⟩ := upto_prefix (j := j) hs
  have := h.items
  rw [ht] at this
  exact this.ahead
end Go.Proofs.YtgehpaojbnpbcaaGreatDoor
namespace Go.Proofs.YtgehpaojbnpbcaaGreatDoor
open Go Go.RowKit Go.ChangeShapes Go.WideShapes Go.Deep
/-- A package-level variable of type error holds an error that isn't nil. -/
def IsErr (w : World) (g : Nat) : Prop := ∃ (tp : TypeId) (p : Value), w.cell? ⟨g, 0, none⟩ = some (.iface tp p)
theorem IsErr.below {w w' : World} {g B : Nat} (h : IsErr w g) (hb : Below B w w') (hB : g < B) : IsErr w' g := by
  obtain ⟨tp, p, h⟩ := h
  exact ⟨tp, p, (hb.cell (p := ⟨g, 0, none⟩) hB).trans h⟩
theorem cells_new (w : World) (x : Value) (t : TypeId) : ∀ (j : Nat) (u : Value), [x][j]? = some u → (w.alloc (.cells #[x] t)).cell? ((⟨w.heap.size, 0, none⟩ : Addr).add j) = some u := by
  intro j u hj
  match j, hj with
  | 0, hj => simp at hj; subst hj; simp [Addr.add]
theorem ownsRow_below {w w' : World} {base : Nat} {e : TypeId} {size : Nat} {v : Value} {n : Nat} {xs : List Value} (h : w.ownsRow base e size v n xs) (hb : Below w.heap.size w w') : w'.ownsRow base e size v n xs :=
  h.kept (row := none) ⟨hb.os, hb.tape, hb.output, hb.size, fun k hk _ => hb.block k hk⟩ (by cases v.ownBlock <;> simp)
section
variable {H : Type} {enc : TypeId × Value → H} {P : Program} {w : World} {base : Nat} {spare : Nat → Bool} {held : Bool}
theorem open_slice_fields {t e : TypeId} {fs : Array Field} {fuel : Nat} {cs : List Value} {x : DataW H × List MemPlace} (ht : P.underlying t = some (.slice e)) (he : P.underlying e = some (.struct fs))
    (hone : oneCellFields P fs = true) (hC : P.cellsOf e = fs.size) (h : DataW.trod enc P w base spare held fuel t cs = some x) :
    (cs = [.slice none 0 0] ∧ x = (.nil, [])) ∨
    ∃ (a : Addr) (len cap m : Nat), cs = [.slice (some a) len cap] ∧ base ≤ a.block ∧ len ≤ cap ∧ cap ≤ maxLen ∧ m = (if spare a.block then cap else len) ∧
      ∀ i, i < m → ∃ (ys : List (DataW H × List MemPlace)) (n : Nat), 
        ∀ (j : Nat) (f : Field), fs[j]? = some f → ∃ (v : Value) (y : DataW H × List MemPlace), w.cell? (a.add (i * fs.size + j)) = some v ∧ ys[j]? = some y ∧ DataW.trod enc P w base spare held n f.type [v] = some y := by
  rcases open_slice ht h with h0 | ⟨a, len, cap, m, n, D, Pl, hcs, hb, hl, hm, hmm, hx, hi⟩
  · exact .inl h0
  · refine .inr ⟨a, len, cap, m, hcs, hb, hl, hm, hmm, fun i him => ?_⟩
    obtain ⟨cs', hc, ht'⟩ := hi i him
    rw [hC] at hc
    obtain ⟨ys, n', hn', hy, hlen, hyl, hf⟩ := DataW.trod_struct he ht'
    obtain ⟨_, hcl, hat⟩ := World.cells?_some hc
    refine ⟨ys, n', fun j f hj => ?_⟩
    obtain ⟨ho, hk⟩ := hone_of hone j f hj
    have hjl : j < fs.size := (Array.getElem?_eq_some_iff.1 hj).1
    have hcell := hat j hjl
    have hv : cs'[j]? = some (cs'[j]'(by omega)) := List.getElem?_eq_getElem (by omega)
    have h1 := hf j f hj
    rw [ho, hk] at h1
    have hone' : (cs'.drop j).take 1 = [cs'[j]'(by omega)] := by
      rw [List.drop_eq_getElem_cons (by omega)]
      rfl
    rw [hone'] at h1
    have hys : ys[j]? = some (ys[j]'(by omega)) := List.getElem?_eq_getElem (by omega)
    refine ⟨_, _, ?_, hys, h1.trans hys⟩
    rw [← Go.Deep.add_add, hcell, hv]
end
theorem I64_of_wf {z : Int} (h : (Lit.int .i64 z).wf = true) : Sg.I64 z := bounds_i64 h
theorem choose_list {α : Type} (n : Nat) (P : Nat → α → Prop) (h : ∀ i, i < n → ∃ a, P i a) : ∃ l : List α, l.length = n ∧ ∀ i a, l[i]? = some a → P i a := by
  have hex : ∀ i : Fin n, ∃ a, P i.val a := fun i => h i.val i.isLt
  refine ⟨List.ofFn fun i => Classical.choose (hex i), by simp, fun i a ha => ?_⟩
  have hil : i < n := by have := (List.getElem?_eq_some_iff.1 ha).1; simpa using this
  rw [List.getElem?_ofFn, dif_pos hil] at ha
  simp only [Option.some.injEq] at ha
  subst ha
  exact Classical.choose_spec (hex ⟨i, hil⟩)
end Go.Proofs.YtgehpaojbnpbcaaGreatDoor
namespace Go.Proofs.YtgehpaojbnpbcaaGreatDoor
open Go Go.RowKit
/-- A node: its block, its parent, its items' slice. -/
structure Nd where
  blk : Nat
  par : Option Addr
  items : Value
def Nd.ptr (d : Nd) : Value := .pointer (some ⟨d.blk, 0, none⟩)
def Nd.cells (d : Nd) (k : Nat) : List Value := [.int .i64 (k : Int), .pointer d.par, d.items]
/-- From block B on there lies a tree: its record at T, of two maps, and these nodes. -/
structure Tree (w : World) (B T M1 M2 : Nat) (v : Value) (ds : List Nd) : Prop where
  low : B ≤ T
  box : Row w T 180 [v, .map (some M1), .map (some M2)]
  ptrs : w.ownsRow B 191 1 v ds.length (ds.map Nd.ptr)
  node : ∀ (i : Nat) (d : Nd), ds[i]? = some d → B ≤ d.blk ∧ Row w d.blk 193 (d.cells i)
  inj : (ds.map Nd.blk).Nodup
  pars : ∀ (i : Nat) (d : Nd), ds[i]? = some d → d.par = none ∨ ∃ (j : Nat) (e : Nd), j < i ∧ ds[j]? = some e ∧ d.par = some ⟨e.blk, 0, none⟩
theorem Row.neq {w : World} {g g' : Nat} {t t' : TypeId} {vs vs' : List Value} (h : Row w g t vs) (h' : Row w g' t' vs') (ht : t ≠ t') : g ≠ g' := by
  rintro rfl
  unfold Row at h h'
  rw [h] at h'
  simp at h'
  exact ht h'.2
theorem Row.same {w w' : World} {g : Nat} {t : TypeId} {vs : List Value} (h : Row w g t vs) (hb : w'.heap[g]? = w.heap[g]?) : Row w' g t vs := hb.trans h
theorem Tree.same {w w' : World} {B T M1 M2 : Nat} {v : Value} {ds : List Nd} (h : Tree w B T M1 M2 v ds) (hb : ∀ g, B ≤ g → (∃ vs t, w.heap[g]? = some (.cells vs t (0, 0))) → w'.heap[g]? = w.heap[g]?) : Tree w' B T M1 M2 v ds where
  low := h.low
  box := h.box.same (hb T h.low ⟨_, _, h.box⟩)
  ptrs := by
    obtain ⟨hl, h2 | ⟨g, cap, cur, hv, hB, hh, hr⟩⟩ := h.ptrs
    · exact ⟨hl, .inl h2⟩
    · exact ⟨hl, .inr ⟨g, cap, cur, hv, hB, (hb g hB ⟨_, _, hh⟩).trans hh, hr⟩⟩
  node := fun i d hd => ⟨(h.node i d hd).1, (h.node i d hd).2.same (hb _ (h.node i d hd).1 ⟨_, _, (h.node i d hd).2⟩)⟩
  inj := h.inj
  pars := h.pars
theorem Tree.below {w w' : World} {B C T M1 M2 : Nat} {v : Value} {ds : List Nd} (h : Tree w B T M1 M2 v ds) (hb : Below C w w') (hC : w.heap.size ≤ C) : Tree w' B T M1 M2 v ds :=
  h.same fun g _ ⟨_, _, hg⟩ => hb.block g (Nat.lt_of_lt_of_le (Array.getElem?_eq_some_iff.1 hg).1 hC)
/-- What the row of pointers holds. -/
theorem Tree.slot {w : World} {B T M1 M2 : Nat} {v : Value} {ds : List Nd} (h : Tree w B T M1 M2 v ds) (hd : ds ≠ []) : ∃ g cap, v = .slice (some ⟨g, 0, none⟩) ds.length cap ∧ B ≤ g ∧ g < w.heap.size ∧ ∀ i d, ds[i]? = some d → w.cell? ⟨g, i, none⟩ = some d.ptr := by
  obtain ⟨hl, h2 | ⟨g, cap, cur, hv, hB, hh, hn, _, hs, ht⟩⟩ := h.ptrs
  · exact absurd (List.eq_nil_of_length_eq_zero h2.2) hd
  · refine ⟨g, cap, hv, hB, (Array.getElem?_eq_some_iff.1 hh).1, fun i d hi => ?_⟩
    have hil := (List.getElem?_eq_some_iff.1 hi).1
    have : cur[i]? = some d.ptr := by
      have e : (cur.toList.take (ds.length * 1))[i]? = some d.ptr := by rw [ht]; simp [hi]
      rw [List.getElem?_take_of_lt (by omega)] at e
      simpa using e
    simp [World.cell?, hh, this]
theorem Tree.nil_v {w : World} {B T M1 M2 : Nat} {v : Value} {ds : List Nd} (h : Tree w B T M1 M2 v ds) : ∃ oa cap, v = .slice oa ds.length cap := by
  obtain ⟨hl, h2 | ⟨g, cap, cur, hv, _⟩⟩ := h.ptrs
  · exact ⟨none, 0, by rw [h2.1, h2.2]⟩
  · exact ⟨_, _, hv⟩
theorem Tree.notRow {w : World} {B T M1 M2 : Nat} {v : Value} {ds : List Nd} (h : Tree w B T M1 M2 v ds) {g : Nat} {t : TypeId} {vs : List Value} (hr : Row w g t vs) (ht : t ≠ 191) : some g ≠ v.ownBlock := by
  obtain ⟨hl, h2 | ⟨g', cap, cur, hv, hB, hh, _⟩⟩ := h.ptrs
  · rw [h2.1]; simp [Value.ownBlock]
  · rw [hv]
    intro e
    simp only [Value.ownBlock, Option.some.injEq] at e
    subst e
    unfold Row at hr
    rw [hr] at hh
    simp at hh
    exact ht hh.2
theorem Row.grown {w w' : World} {g : Nat} {t : TypeId} {vs : List Value} {row : Option Nat} (h : Row w g t vs) (hg : w.grownBy w' row) (hne : some g ≠ row) : Row w' g t vs := h.same (hg.block g h.lt hne)
theorem ownsRow_other {w : World} {B : Nat} {e : TypeId} {v : Value} {n T : Nat} {xs : List Value} {t : TypeId} {vs : List Value} (h : w.ownsRow B e 1 v n xs) (hT : Row w T t vs) (ht : t ≠ e) (i : Nat) (u : Value) : (w.setCell ⟨T, i, none⟩ u).ownsRow B e 1 v n xs := by
  obtain ⟨hl, h2 | ⟨g, cap, cur, hv, hB, hh, hr⟩⟩ := h
  · exact ⟨hl, .inl h2⟩
  · refine ⟨hl, .inr ⟨g, cap, cur, hv, hB, ?_, hr⟩⟩
    rw [Below.heap_setCell _ _ _ _ (show g ≠ T from ?_)]
    · exact hh
    · rintro rfl
      unfold Row at hT
      rw [hT] at hh
      simp at hh
      exact ht hh.2
/-- A node more: the record's first cell is the new row. -/
theorem Tree.snoc {w0 w w3 : World} {B T M1 M2 : Nat} {v v' : Value} {ds : List Nd} {nd : Nd} (h0 : Tree w0 B T M1 M2 v ds) (h : Tree w B T M1 M2 v ds) (hn : Row w nd.blk 193 (nd.cells ds.length)) (hB : B ≤ nd.blk) (hz : w0.heap.size ≤ nd.blk)
    (hp : nd.par = none ∨ ∃ (j : Nat) (e : Nd), ds[j]? = some e ∧ nd.par = some ⟨e.blk, 0, none⟩)
    (hg : w.grownBy w3 v.ownBlock) (hown : w3.ownsRow B 191 1 v' (ds.length + 1) (ds.map Nd.ptr ++ [nd.ptr])) : Tree (w3.setCell ⟨T, 0, none⟩ v') B T M1 M2 v' (ds ++ [nd]) where
  low := h.low
  box := (h.box.grown hg (h.notRow h.box (by decide))).set 0 v'
  ptrs := by
    rw [List.length_append, List.map_append]
    exact ownsRow_other hown (h.box.grown hg (h.notRow h.box (by decide))) (by decide) 0 v'
  node := by
    intro i d hd
    rw [List.getElem?_append] at hd
    split at hd
    · have := h.node i d hd
      exact ⟨this.1, (this.2.grown hg (h.notRow this.2 (by decide))).other (fun e => this.2.neq h.box (by decide) e.symm) v'⟩
    · rename_i hi
      obtain ⟨rfl, rfl⟩ : i = ds.length ∧ d = nd := by
        have hl := (List.getElem?_eq_some_iff.1 hd).1
        simp only [List.length_cons, List.length_nil] at hl
        have hi' : i = ds.length := by omega
        subst hi'
        simp at hd
        exact ⟨rfl, hd.symm⟩
      exact ⟨hB, (hn.grown hg (h.notRow hn (by decide))).other (fun e => hn.neq h.box (by decide) e.symm) v'⟩
  inj := by
    rw [List.map_append, List.nodup_append]
    refine ⟨h.inj, by simp, ?_⟩
    intro a ha b hb
    simp only [List.map_cons, List.map_nil, List.mem_singleton] at hb
    subst hb
    obtain ⟨d, hd, rfl⟩ := List.mem_map.1 ha
    obtain ⟨i, hi⟩ := List.mem_iff_getElem?.1 hd
    have := (h0.node i d hi).2.lt
    omega
  pars := by
    intro i d hd
    rw [List.getElem?_append] at hd
    split at hd
    · rcases h.pars i d hd with h1 | ⟨j, e, hj, he, h1⟩
      · exact .inl h1
      · exact .inr ⟨j, e, hj, by rw [List.getElem?_append_left (List.getElem?_eq_some_iff.1 he).1]; exact he, h1⟩
    · rename_i hi
      obtain rfl : d = nd := by
        have hl := (List.getElem?_eq_some_iff.1 hd).1
        simp only [List.length_cons, List.length_nil] at hl
        have hi' : i = ds.length := by omega
        subst hi'
        simp at hd
        exact hd.symm
      rcases hp with h1 | ⟨j, e, he, h1⟩
      · exact .inl h1
      · have hj := (List.getElem?_eq_some_iff.1 he).1
        exact .inr ⟨j, e, by omega, by rw [List.getElem?_append_left hj]; exact he, h1⟩
end Go.Proofs.YtgehpaojbnpbcaaGreatDoor
namespace Go.Proofs.YtgehpaojbnpbcaaGreatDoor
open Go Go.RowKit Go.Maps
theorem placeWide : (match Tryz.prog.underlying 59 with | some (.array _ _) | some (.struct _) => true | _ => false) = true := by kernel_rfl
theorem placeRow : (59 : TypeId) < Tryz.prog.types.size := of_decide_eq_true (by kernel_rfl)
theorem laidOutM : laidOutB Tryz.prog = true := by kernel_rfl
theorem placeAt : Tryz.prog.keyTypeAt 2 59 = true := by kernel_rfl
set_option maxRecDepth 100000 in
theorem placeLaw : Keyed Tryz.prog 59 := Keyed.of_law (deep_law_laid laidOutM (m := 2) (by omega) placeRow placeAt placeWide)
theorem scopeLaw : Keyed Tryz.prog 3 := int_keyed Tryz.underlying3
/-- What a place reads as, as a key. -/
def plLit (a b : Int) : Lit := .string (keyBytes [.int .i64 a, .int .i64 b])
theorem placeType : Tryz.prog.keyType 59 = true := by kernel_rfl
theorem placeCellsM : Tryz.prog.cellsOf 59 = 2 := by kernel_rfl
theorem intCells : Tryz.prog.cellsOf 3 = 1 := by kernel_rfl
theorem typesPos : ∃ m, Tryz.prog.types.size + 1 = m + 2 := by
  have := placeRow
  cases h : Tryz.prog.types.size with
  | zero => rw [h] at this; exact absurd this (Nat.not_lt_zero _)
  | succ m => exact ⟨m, rfl⟩
theorem pl_key {a b : Int} (ha : (Lit.int .i64 a).wf = true) (hb : (Lit.int .i64 b).wf = true) : keyOf Tryz.prog 59 (.agg #[.int .i64 a, .int .i64 b]) = some (plLit a b) := by
  obtain ⟨m, hm⟩ := typesPos
  have hf : (Value.agg #[.int .i64 a, .int .i64 b]).formed Tryz.prog 59 = true := by simp [Value.formed, Tryz.underlying59, placeCellsM]
  unfold keyOf
  rw [Tryz.underlying59]
  simp only [placeType, hf, Bool.and_self, if_true, hm]
  simp [Program.keyLits, Tryz.underlying59, placeCellsM, intCells, Tryz.underlying3, ha, hb, Value.cells, plLit]
theorem plLit_inj {a b c d : Int} (ha : (Lit.int .i64 a).wf = true) (hb : (Lit.int .i64 b).wf = true) (hc : (Lit.int .i64 c).wf = true) (hd : (Lit.int .i64 d).wf = true) (h : plLit a b = plLit c d) : a = c ∧ b = d := by
  have h1 := pl_key ha hb
  have h2 := pl_key hc hd
  rw [h] at h1
  have := placeLaw.inj h1 h2
  simpa using this
end Go.Proofs.YtgehpaojbnpbcaaGreatDoor
