/-
  Chains of scopes, what lies within a scope, the innermost scope around two, modules of scopes, blocks, paths, as plain data. Plain facts.
-/
import Derived.Test.YtadpgoiiopfnnaaDoorBase
import Derived.Test.YtadpgoiiopfnnaaDoorTreeOf
namespace Go.Proofs.YtadpgoiiopfnnaaDoor
open Go Go.RowKit
/-- Each scope has an earlier one as its parent, the first one none. -/
def Climbs (ss : List Sc) : Prop := ∀ i s, ss[i]? = some s → scopeB i s = true
theorem Valid.climbs {ss : List Sc} (h : Valid ss) : Climbs ss := h.scopes
/-- The parent of a scope, if it has one. -/
def parP (ss : List Sc) (s : Nat) : Option Nat := match ss[s]? with
  | some c => if c.parent < 0 then none else some c.parent.toNat
  | none => none
def chainN (ss : List Sc) : Nat → Nat → List Nat
  | 0, _ => []
  | n + 1, s => s :: (match parP ss s with | some p => chainN ss n p | none => [])
/-- A scope and all around it, from the inside to the outside. -/
def chainP (ss : List Sc) (s : Nat) : List Nat := chainN ss (s + 1) s
theorem Climbs.par {ss : List Sc} (h : Climbs ss) {s p : Nat} (hp : parP ss s = some p) : p < s := by
  unfold parP at hp
  split at hp
  · rename_i c hc
    split at hp
    · cases hp
    · cases hp
      rcases scope_parent (h s c hc) with ⟨_, h1⟩ | ⟨q, h1, hlt⟩ <;> omega
  · cases hp
theorem Climbs.par_zero {ss : List Sc} (h : Climbs ss) : parP ss 0 = none := by
  cases e : parP ss 0 with
  | none => rfl
  | some p => have := h.par e; omega
theorem par_of {ss : List Sc} {s p : Nat} {c : Sc} (hc : ss[s]? = some c) (hp : c.parent = (p : Int)) : parP ss s = some p := by
  unfold parP; simp only [hc]; rw [if_neg (by omega), hp]; simp
theorem par_none {ss : List Sc} {s : Nat} {c : Sc} (hc : ss[s]? = some c) (hp : c.parent < 0) : parP ss s = none := by
  unfold parP; simp only [hc]; rw [if_pos hp]
theorem Climbs.cases {ss : List Sc} (h : Climbs ss) {s : Nat} {c : Sc} (hc : ss[s]? = some c) : (s = 0 ∧ c.parent = -1 ∧ parP ss s = none) ∨ (∃ p : Nat, c.parent = (p : Int) ∧ p < s ∧ parP ss s = some p) := by
  rcases scope_parent (h s c hc) with ⟨h0, h1⟩ | ⟨p, h1, hlt⟩
  · exact .inl ⟨h0, h1, par_none hc (by omega)⟩
  · exact .inr ⟨p, h1, hlt, par_of hc h1⟩
theorem chainN_more {ss : List Sc} (h : Climbs ss) : ∀ (s n m : Nat), s < n → s < m → chainN ss n s = chainN ss m s := by
  intro s
  induction s using Nat.strongRecOn with
  | _ s ih =>
    intro n m hn hm
    obtain ⟨n, rfl⟩ : ∃ k, n = k + 1 := ⟨n - 1, by omega⟩
    obtain ⟨m, rfl⟩ : ∃ k, m = k + 1 := ⟨m - 1, by omega⟩
    unfold chainN
    cases e : parP ss s with
    | none => rfl
    | some p =>
      have := h.par e
      simp only
      rw [ih p this n m (by omega) (by omega)]
theorem chain_none {ss : List Sc} {s : Nat} (e : parP ss s = none) : chainP ss s = [s] := by
  unfold chainP chainN; rw [e]
theorem chain_some {ss : List Sc} (h : Climbs ss) {s p : Nat} (e : parP ss s = some p) : chainP ss s = s :: chainP ss p := by
  have hlt := h.par e
  unfold chainP
  rw [show chainN ss (s + 1) s = s :: chainN ss s p from by conv => lhs; unfold chainN; rw [e]]
  rw [chainN_more h p s (p + 1) hlt (by omega)]
theorem chain_head (ss : List Sc) (s : Nat) : ∃ t, chainP ss s = s :: t := by
  unfold chainP chainN; exact ⟨_, rfl⟩
theorem chain_self (ss : List Sc) (s : Nat) : s ∈ chainP ss s := by obtain ⟨t, h⟩ := chain_head ss s; rw [h]; exact List.mem_cons_self
theorem chain_le {ss : List Sc} (h : Climbs ss) : ∀ (s m : Nat), m ∈ chainP ss s → m ≤ s := by
  intro s
  induction s using Nat.strongRecOn with
  | _ s ih =>
    intro m hm
    cases e : parP ss s with
    | none => rw [chain_none e] at hm; simp at hm; omega
    | some p =>
      have := h.par e
      rw [chain_some h e] at hm
      rcases List.mem_cons.1 hm with rfl | hm
      · exact Nat.le_refl _
      · have := ih p this m hm; omega
theorem chain_nodup {ss : List Sc} (h : Climbs ss) : ∀ s : Nat, (chainP ss s).Nodup := by
  intro s
  induction s using Nat.strongRecOn with
  | _ s ih =>
    cases e : parP ss s with
    | none => rw [chain_none e]; simp
    | some p =>
      have := h.par e
      rw [chain_some h e, List.nodup_cons]
      exact ⟨fun hm => by have := chain_le h p s hm; omega, ih p this⟩
theorem chain_length {ss : List Sc} (h : Climbs ss) : ∀ s : Nat, (chainP ss s).length ≤ s + 1 := by
  intro s
  induction s using Nat.strongRecOn with
  | _ s ih =>
    cases e : parP ss s with
    | none => rw [chain_none e]; simp
    | some p =>
      have := h.par e
      rw [chain_some h e]
      have := ih p this
      simp only [List.length_cons]; omega
/-- What lies around one that lies around another lies around that. -/
theorem chain_trans {ss : List Sc} (h : Climbs ss) {m : Nat} : ∀ s k : Nat, m ∈ chainP ss s → k ∈ chainP ss m → k ∈ chainP ss s := by
  intro s
  induction s using Nat.strongRecOn with
  | _ s ih =>
    intro k hm hk
    cases e : parP ss s with
    | none => rw [chain_none e] at hm; simp at hm; subst hm; exact hk
    | some p =>
      have := h.par e
      rw [chain_some h e] at hm ⊢
      rcases List.mem_cons.1 hm with rfl | hm
      · rw [chain_some h e] at hk; exact hk
      · exact List.mem_cons_of_mem _ (ih p this k hm hk)
theorem chain_sub {ss : List Sc} (h : Climbs ss) {s m : Nat} : s ∈ chainP ss m ↔ ∀ k, k ∈ chainP ss s → k ∈ chainP ss m :=
  ⟨fun hs k hk => chain_trans h m k hs hk, fun hk => hk s (chain_self ss s)⟩
theorem chain_zero {ss : List Sc} (h : Climbs ss) : ∀ s : Nat, s < ss.length → 0 ∈ chainP ss s := by
  intro s
  induction s using Nat.strongRecOn with
  | _ s ih =>
    intro hs
    obtain ⟨c, hc⟩ : ∃ c, ss[s]? = some c := ⟨_, List.getElem?_eq_getElem hs⟩
    rcases h.cases hc with ⟨rfl, _, _⟩ | ⟨p, _, hlt, e⟩
    · exact chain_self ss 0
    · rw [chain_some h e]
      exact List.mem_cons_of_mem _ (ih p hlt (by omega))
theorem chain_inj {ss : List Sc} (h : Climbs ss) {a b : Nat} (hab : ∀ k, k ∈ chainP ss a ↔ k ∈ chainP ss b) : a = b := by
  have h1 := chain_le h b a ((hab a).1 (chain_self ss a))
  have h2 := chain_le h a b ((hab b).2 (chain_self ss b))
  omega
/-- Two that lie around the same one: one lies around the other. -/
theorem chain_line {ss : List Sc} (h : Climbs ss) {a b : Nat} : ∀ s : Nat, a ∈ chainP ss s → b ∈ chainP ss s → a ∈ chainP ss b ∨ b ∈ chainP ss a := by
  intro s
  induction s using Nat.strongRecOn with
  | _ s ih =>
    intro ha hb
    cases e : parP ss s with
    | none => rw [chain_none e] at ha hb; simp at ha hb; subst ha hb; exact .inl (chain_self ss _)
    | some p =>
      have := h.par e
      have hc := chain_some h e
      rw [hc] at ha hb
      rcases List.mem_cons.1 ha with ha1 | ha1
      · rcases List.mem_cons.1 hb with hb1 | hb1
        · rw [ha1, hb1]; exact .inl (chain_self ss _)
        · right; rw [ha1, hc]; exact List.mem_cons_of_mem _ hb1
      · rcases List.mem_cons.1 hb with hb1 | hb1
        · left; rw [hb1, hc]; exact List.mem_cons_of_mem _ ha1
        · exact ih p this ha1 hb1
/-- The first of one's chain that lies around another, too. -/
def commonP (ss : List Sc) (a b : Nat) : Nat := ((chainP ss a).find? fun m => decide (m ∈ chainP ss b)).getD 0
theorem common_mem {ss : List Sc} (h : Climbs ss) {a b : Nat} (ha : a < ss.length) (hb : b < ss.length) : commonP ss a b ∈ chainP ss a ∧ commonP ss a b ∈ chainP ss b := by
  unfold commonP
  cases e : (chainP ss a).find? fun m => decide (m ∈ chainP ss b) with
  | none =>
    rw [List.find?_eq_none] at e
    exact absurd (by simpa using chain_zero h b hb) (e 0 (chain_zero h a ha))
  | some m =>
    have h1 := List.mem_of_find?_eq_some e
    have h2 := List.find?_some e
    exact ⟨h1, by simpa using h2⟩
theorem find_first {ss : List Sc} (h : Climbs ss) {q : Nat → Bool} {m : Nat} : ∀ s : Nat, (chainP ss s).find? q = some m → ∀ k, k ∈ chainP ss s → q k = true → k ∈ chainP ss m := by
  intro s
  induction s using Nat.strongRecOn with
  | _ s ih =>
    intro hf k hk hq
    obtain ⟨t, ht⟩ := chain_head ss s
    cases hs : q s with
    | true =>
      rw [ht, List.find?_cons, hs] at hf
      cases hf
      exact hk
    | false =>
      cases e : parP ss s with
      | none =>
        rw [chain_none e] at hk; simp at hk; subst hk; rw [hs] at hq; cases hq
      | some p =>
        have := h.par e
        rw [chain_some h e] at hk hf
        rw [List.find?_cons, hs] at hf
        rcases List.mem_cons.1 hk with rfl | hk
        · rw [hs] at hq; cases hq
        · exact ih p this hf k hk hq
/-- Scopes around both are just those around the common one. -/
theorem common_chain {ss : List Sc} (h : Climbs ss) {a b : Nat} (ha : a < ss.length) (hb : b < ss.length) (k : Nat) : k ∈ chainP ss (commonP ss a b) ↔ k ∈ chainP ss a ∧ k ∈ chainP ss b := by
  obtain ⟨h1, h2⟩ := common_mem h ha hb
  constructor
  · exact fun hk => ⟨chain_trans h a k h1 hk, chain_trans h b k h2 hk⟩
  · rintro ⟨k1, k2⟩
    cases e : (chainP ss a).find? fun m => decide (m ∈ chainP ss b) with
    | none =>
      rw [List.find?_eq_none] at e
      exact absurd (by simpa using chain_zero h b hb) (e 0 (chain_zero h a ha))
    | some m =>
      have hm : commonP ss a b = m := by unfold commonP; rw [e]; rfl
      rw [hm]
      exact find_first h a e k k1 (by simpa using k2)
/-- A scope and all within it. -/
def withinP (ss : List Sc) (s : Nat) : List Nat := (List.range ss.length).filter fun k => decide (s ∈ chainP ss k)
/-- The place of the module of a scope. -/
def moduleP (ss : List Sc) (s : Int) : Option (Nat × Nat × It) := (placed 0 ss).find? fun q => q.2.2.kind == 1 && q.2.2.scope == s
/-- The blocks of a scope. -/
def blocksP (ss : List Sc) (s : Nat) : List Nat := (List.range ss.length).filter fun k => decide (parP ss k = some s) && (moduleP ss (k : Int)).isNone
/-- The names of the modules of a chain, the last one first. -/
def pathL (ss : List Sc) : List Nat → List UInt8
  | [] => []
  | s :: r => pathL ss r ++ (match moduleP ss (s : Int) with | some q => q.2.2.name.data.toList | none => [])
def pathP (ss : List Sc) (s : Nat) : List UInt8 := pathL ss (chainP ss s)
end Go.Proofs.YtadpgoiiopfnnaaDoor
