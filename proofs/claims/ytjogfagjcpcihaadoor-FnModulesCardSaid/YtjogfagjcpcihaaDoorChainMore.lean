/-
  More of chains: each next member is the parent of the one before, the last is 0; who lies within. Plain facts.
-/
import Derived.Test.YtjogfagjcpcihaaDoorCountP
namespace Go.Proofs.YtjogfagjcpcihaaDoor
open Go
theorem mem_within {ss : List Sc} {s k : Nat} : k ∈ withinP ss s ↔ k < ss.length ∧ s ∈ chainP ss k := by
  unfold withinP
  rw [List.mem_filter, List.mem_range, decide_eq_true_iff]
theorem par_val {ss : List Sc} {a b : Nat} (h : parP ss a = some b) : ∃ c, ss[a]? = some c ∧ c.parent = (b : Int) := by
  unfold parP at h
  cases hc : ss[a]? with
  | none => rw [hc] at h; cases h
  | some c =>
    rw [hc] at h
    refine ⟨c, rfl, ?_⟩
    simp only at h
    split at h
    · cases h
    · simp only [Option.some.injEq] at h
      omega
theorem chain_next {ss : List Sc} (h : Climbs ss) {a b : Nat} : ∀ s i : Nat, (chainP ss s)[i]? = some a → (chainP ss s)[i + 1]? = some b → parP ss a = some b := by
  intro s
  induction s using Nat.strongRecOn with
  | _ s ih =>
    intro i ha hb
    cases e : parP ss s with
    | none =>
      rw [chain_none e] at hb
      simp at hb
    | some q =>
      rw [chain_some h e] at ha hb
      cases i with
      | zero =>
        simp only [List.getElem?_cons_zero, Option.some.injEq] at ha
        subst ha
        obtain ⟨t, ht⟩ := chain_head ss q
        rw [ht] at hb
        simp only [Nat.zero_add, List.getElem?_cons_succ, List.getElem?_cons_zero, Option.some.injEq] at hb
        rw [e, hb]
      | succ i =>
        rw [List.getElem?_cons_succ] at ha hb
        exact ih q (h.par e) i ha hb
theorem chain_last {ss : List Sc} (h : Climbs ss) : ∀ s : Nat, s < ss.length → (chainP ss s)[(chainP ss s).length - 1]? = some 0 := by
  intro s
  induction s using Nat.strongRecOn with
  | _ s ih =>
    intro hs
    cases e : parP ss s with
    | none =>
      have h0 := chain_zero h s hs
      rw [chain_none e] at h0 ⊢
      simp only [List.mem_singleton] at h0
      subst h0
      rfl
    | some q =>
      have hq := h.par e
      have h1 := ih q hq (by omega)
      rw [chain_some h e]
      obtain ⟨t, ht⟩ := chain_head ss q
      rw [ht] at h1 ⊢
      simpa using h1
theorem common_within {ss : List Sc} (h : Climbs ss) {s k : Nat} (hs : s < ss.length) (hk : k ∈ withinP ss s) : commonP ss k s = s := by
  obtain ⟨hkl, hc⟩ := mem_within.1 hk
  obtain ⟨m1, m2⟩ := common_mem h hkl hs
  exact chain_inj h fun j => ⟨fun hj => chain_trans h s _ m2 hj, fun hj => common_all h hkl hs j (chain_trans h k j hc hj) hj⟩
end Go.Proofs.YtjogfagjcpcihaaDoor
