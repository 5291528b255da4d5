/-
  What a valid graph is, as plain data, and how a walk over its items in order comes to it. Plain facts.
-/
import Derived.Test.YtlhlcdlkilpbhaaDoorGraph
namespace Go.Proofs.YtlhlcdlkilpbhaaDoor
open Go Go.RowKit
def inB (n lo hi : Int) : Bool := decide (lo ≤ n) && decide (n ≤ hi)
/-- One letter from a to z. -/
def nameB (s : ByteArray) : Bool :=
  match s.data.toList with
  | [b] => inB (b.toNat : Int) 97 122
  | _ => false
def itemB (x : It) : Bool := nameB x.name && inB x.kind 1 3 && (x.scope == -1 || x.kind == 1)
def parentB (i : Nat) (p : Int) : Bool := if i = 0 then p == -1 else inB p 0 ((i : Int) - 1)
/-- A scope by itself. -/
def scopeB (i : Nat) (s : Sc) : Bool := decide (s.items.length ≤ 5) && parentB i s.parent
/-- An item where it stands: if it is a module, its scope is one whose parent is where it stands. -/
def modB (ss : List Sc) (i : Nat) (x : It) : Bool := x.scope == -1 || (inB x.scope ((i : Int) + 1) ((ss.length : Int) - 1) && (ss[x.scope.toNat]?.map Sc.parent == some (i : Int)))
/-- The scopes of the modules among items. -/
def modsOf (xs : List It) : List Int := (xs.filter fun x => x.scope != -1).map It.scope
/-- All items with their scopes' numbers from i on, in order. -/
def flat (i : Nat) : List Sc → List (Nat × It)
  | [] => []
  | s :: r => s.items.map (fun x => (i, x)) ++ flat (i + 1) r
def goodItems (ss : List Sc) (l : List (Nat × It)) : Prop := (∀ q ∈ l, itemB q.2 = true ∧ modB ss q.1 q.2 = true) ∧ (modsOf (l.map Prod.snd)).Nodup
structure Valid (ss : List Sc) : Prop where
  count : 1 ≤ ss.length ∧ ss.length ≤ 6
  scopes : ∀ i s, ss[i]? = some s → scopeB i s = true
  items : goodItems ss (flat 0 ss)
theorem modsOf_append (a b : List It) : modsOf (a ++ b) = modsOf a ++ modsOf b := by simp [modsOf]
theorem modsOf_one (x : It) : modsOf [x] = if x.scope = -1 then [] else [x.scope] := by
  by_cases h : x.scope = -1 <;> simp [modsOf, h]
theorem goodItems.ahead {ss : List Sc} {a b : List (Nat × It)} (h : goodItems ss (a ++ b)) : goodItems ss a := by
  refine ⟨fun q hq => h.1 q (List.mem_append_left _ hq), ?_⟩
  have := h.2
  rw [List.map_append, modsOf_append] at this
  exact (List.nodup_append.1 this).1
theorem goodItems.nil (ss : List Sc) : goodItems ss [] := ⟨(fun q hq => by cases hq), by simp [modsOf]⟩
theorem goodItems.snoc {ss : List Sc} {a : List (Nat × It)} {i : Nat} {x : It} (h : goodItems ss a) (h1 : itemB x = true) (h2 : modB ss i x = true) (h3 : x.scope = -1 ∨ x.scope ∉ modsOf (a.map Prod.snd)) : goodItems ss (a ++ [(i, x)]) := by
  refine ⟨fun q hq => ?_, ?_⟩
  · rcases List.mem_append.1 hq with hq | hq
    · exact h.1 q hq
    · simp at hq; subst hq; exact ⟨h1, h2⟩
  · rw [List.map_append, modsOf_append]
    simp only [List.map_cons, List.map_nil, modsOf_one]
    by_cases hx : x.scope = -1
    · rw [if_pos hx, List.append_nil]; exact h.2
    · rw [if_neg hx, List.nodup_append]
      refine ⟨h.2, by simp, fun a ha b hb => ?_⟩
      simp at hb; subst hb
      rintro rfl
      rcases h3 with h3 | h3
      · exact hx h3
      · exact h3 ha
theorem goodItems.last {ss : List Sc} {a : List (Nat × It)} {i : Nat} {x : It} (h : goodItems ss (a ++ [(i, x)])) : itemB x = true ∧ modB ss i x = true ∧ (x.scope = -1 ∨ x.scope ∉ modsOf (a.map Prod.snd)) := by
  obtain ⟨h1, h2⟩ := h.1 (i, x) (by simp)
  refine ⟨h1, h2, ?_⟩
  by_cases hx : x.scope = -1
  · exact .inl hx
  · right
    have := h.2
    rw [List.map_append, modsOf_append] at this
    simp only [List.map_cons, List.map_nil, modsOf_one, if_neg hx] at this
    intro hm
    exact (List.nodup_append.1 this).2.2 _ hm _ (by simp) rfl
theorem flat_append (i : Nat) : ∀ (a b : List Sc), flat i (a ++ b) = flat i a ++ flat (i + a.length) b
  | [], b => by simp [flat]
  | s :: r, b => by
    simp only [List.cons_append, flat, flat_append (i + 1) r b, List.append_assoc, List.length_cons]
    rw [show i + 1 + r.length = i + (r.length + 1) from by omega]
/-- The items ahead of the j-th of the k-th scope. -/
def upto (ss : List Sc) (k j : Nat) : List (Nat × It) := flat 0 (ss.take k) ++ (((ss[k]?.map Sc.items).getD []).take j).map fun x => (k, x)
theorem upto_zero (ss : List Sc) (k : Nat) : upto ss k 0 = flat 0 (ss.take k) := by simp [upto]
theorem upto_start (ss : List Sc) : upto ss 0 0 = [] := by simp [upto, flat]
theorem upto_next {ss : List Sc} {k j : Nat} {s : Sc} {x : It} (hs : ss[k]? = some s) (hx : s.items[j]? = some x) : upto ss k (j + 1) = upto ss k j ++ [(k, x)] := by
  simp only [upto, hs, Option.map_some, Option.getD_some]
  rw [List.take_add_one, hx]
  simp
theorem upto_scope {ss : List Sc} {k : Nat} {s : Sc} (hs : ss[k]? = some s) : upto ss k s.items.length = upto ss (k + 1) 0 := by
  have hk := (List.getElem?_eq_some_iff.1 hs).1
  rw [upto_zero, List.take_add_one, hs, flat_append]
  simp only [upto, hs, Option.map_some, Option.getD_some, List.take_length, Option.toList_some, flat, List.append_nil, List.length_take]
  rw [show 0 + min k ss.length = k from by omega]
theorem upto_all (ss : List Sc) : upto ss ss.length 0 = flat 0 ss := by rw [upto_zero, List.take_length]
/-- What lies ahead of an item is a beginning of all. -/
theorem upto_prefix {ss : List Sc} {k j : Nat} {s : Sc} (hs : ss[k]? = some s) : ∃ t, flat 0 ss = upto ss k j ++ t := by
  have hk := (List.getElem?_eq_some_iff.1 hs).1
  have e : ss = ss.take k ++ s :: ss.drop (k + 1) := by
    have h1 := List.drop_eq_getElem_cons hk
    rw [(List.getElem?_eq_some_iff.1 hs).2] at h1
    rw [← h1, List.take_append_drop]
  refine ⟨((s.items.drop j).map fun x => (k, x)) ++ flat (k + 1) (ss.drop (k + 1)), ?_⟩
  conv => lhs; rw [e, flat_append]
  simp only [flat, upto, hs, Option.map_some, Option.getD_some, List.length_take]
  rw [show 0 + min k ss.length = k from by omega, List.append_assoc]
  congr 1
  rw [← List.append_assoc, ← List.map_append, List.take_append_drop]
/-- A valid graph's items are good wherever a walk stands. -/
theorem Valid.upto {ss : List Sc} (h : Valid ss) {k j : Nat} {s : Sc} (hs : ss[k]? = some s) : goodItems ss (upto ss k j) := by
  obtain ⟨t, ht⟩ := upto_prefix (j := j) hs
  have := h.items
  rw [ht] at this
  exact this.ahead
end Go.Proofs.YtlhlcdlkilpbhaaDoor
