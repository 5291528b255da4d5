/-
  How many members two chains share. Plain facts.
-/
import Derived.Test.YtjogfagjcpcihaaDoorJB
namespace Go.Proofs.YtjogfagjcpcihaaDoor
open Go
theorem chain_suffix {ss : List Sc} (h : Climbs ss) {c : Nat} (a : Nat) : c ∈ chainP ss a → ∃ p, chainP ss a = p ++ chainP ss c := by
  induction a using Nat.strongRecOn with
  | _ a ih =>
    intro hc
    cases e : parP ss a with
    | none =>
      have h1 := chain_none e
      rw [h1, List.mem_singleton] at hc
      subst hc
      exact ⟨[], rfl⟩
    | some q =>
      have h1 := chain_some h e
      rw [h1] at hc
      rcases List.mem_cons.1 hc with rfl | hc
      · exact ⟨[], rfl⟩
      · obtain ⟨p, hp⟩ := ih q (h.par e) hc
        exact ⟨a :: p, by rw [h1, hp]; rfl⟩
/-- The pairs of equal members. -/
def pairs (x y : List Nat) : Nat := (x.map fun s => y.count s).sum
theorem pairs_snoc (x y : List Nat) (s : Nat) : pairs (x ++ [s]) y = pairs x y + y.count s := by simp [pairs]
theorem pairs_out {x y : List Nat} (h : ∀ s ∈ x, s ∉ y) : pairs x y = 0 := by
  induction x with
  | nil => rfl
  | cons a r ih =>
    have h1 := ih (fun s hs => h s (by simp [hs]))
    have h2 : y.count a = 0 := List.count_eq_zero.2 (h a (by simp))
    simp only [pairs, List.map_cons, List.sum_cons] at h1 ⊢
    omega
theorem pairs_in {x y : List Nat} (hy : y.Nodup) (h : ∀ s ∈ x, s ∈ y) : pairs x y = x.length := by
  induction x with
  | nil => rfl
  | cons a r ih =>
    have h1 := ih (fun s hs => h s (by simp [hs]))
    have h2 : y.count a = 1 := by
      have h3 := List.nodup_iff_count.1 hy a
      have h4 := List.count_pos_iff.2 (h a (by simp))
      omega
    simp only [pairs, List.map_cons, List.sum_cons, List.length_cons] at h1 ⊢
    omega
theorem pairs_le : ∀ (x y : List Nat) (n m : Nat), x.length ≤ n → y.length ≤ m → pairs x y ≤ n * m
  | [], _, _, _, _, _ => by simp [pairs]
  | a :: r, y, n, m, hx, hy => by
    obtain ⟨n', rfl⟩ : ∃ n', n = n' + 1 := ⟨n - 1, by simp at hx; omega⟩
    have h1 := pairs_le r y n' m (by simpa using hx) hy
    have h2 := List.count_le_length (a := a) (l := y)
    rw [Nat.succ_mul]
    simp only [pairs, List.map_cons, List.sum_cons] at h1 ⊢
    omega
theorem pairs_append (x z y : List Nat) : pairs (x ++ z) y = pairs x y + pairs z y := by simp [pairs]
/-- Where c is the scope that both lie in first. -/
theorem pairs_chain {ss : List Sc} (h : Climbs ss) {a b c : Nat} (ha : c ∈ chainP ss a) (hb : c ∈ chainP ss b) (hall : ∀ k, k ∈ chainP ss a → k ∈ chainP ss b → k ∈ chainP ss c) : pairs (chainP ss a) (chainP ss b) = (chainP ss c).length := by
  obtain ⟨p, hp⟩ := chain_suffix h a ha
  have hn := chain_nodup h a
  have hsub : ∀ s ∈ chainP ss c, s ∈ chainP ss b := fun s hs => chain_trans h b s hb hs |> fun k => k
  rw [hp] at hn ⊢
  rw [pairs_append, pairs_out (x := p), pairs_in (chain_nodup h b) hsub, Nat.zero_add]
  intro s hs hsb
  have hsa : s ∈ chainP ss a := by rw [hp]; exact List.mem_append_left _ hs
  exact (List.nodup_append.1 hn).2.2 s hs s (hall s hsa hsb) rfl
theorem common_all {ss : List Sc} (h : Climbs ss) {a b : Nat} (ha : a < ss.length) (hb : b < ss.length) : ∀ k, k ∈ chainP ss a → k ∈ chainP ss b → k ∈ chainP ss (commonP ss a b) := by
  intro k h1 h2
  unfold commonP
  cases e : (chainP ss a).find? fun m => decide (m ∈ chainP ss b) with
  | none =>
    rw [List.find?_eq_none] at e
    exact absurd (by simpa using chain_zero h b hb) (e 0 (chain_zero h a ha))
  | some m => exact find_first h a e k h1 (by simpa using h2)
theorem common_sym {ss : List Sc} (h : Climbs ss) {a b : Nat} (ha : a < ss.length) (hb : b < ss.length) : commonP ss a b = commonP ss b a := by
  obtain ⟨m1, m2⟩ := common_mem h ha hb
  obtain ⟨m3, m4⟩ := common_mem h hb ha
  exact chain_inj h fun k => ⟨fun hk => common_all h hb ha k (chain_trans h b _ m2 hk |> fun z => by first | exact z | exact chain_trans h _ _ m2 hk) (chain_trans h _ _ m1 hk), fun hk => common_all h ha hb k (chain_trans h _ _ m4 hk) (chain_trans h _ _ m3 hk)⟩
theorem common_self (ss : List Sc) (a : Nat) : commonP ss a a = a := by
  obtain ⟨t, ht⟩ := chain_head ss a
  unfold commonP
  rw [ht]
  simp
theorem pairs_common {ss : List Sc} (h : Climbs ss) {a b : Nat} (ha : a < ss.length) (hb : b < ss.length) : pairs (chainP ss a) (chainP ss b) = (chainP ss (commonP ss a b)).length :=
  pairs_chain h (common_mem h ha hb).1 (common_mem h ha hb).2 (common_all h ha hb)
end Go.Proofs.YtjogfagjcpcihaaDoor
