/-
  What one reaches by going to imported scopes, once or more often; a search by depth, and one by breadth. Plain facts.
-/
import Derived.Test.YtmfglfhloahmlaaDoorLookP
namespace Go.Proofs.YtmfglfhloahmlaaDoor
open Go Go.RowKit
/-- From s one gets to m: m is in every set that has what s imports, and what its members import. -/
def Reach (ss : List Sc) (s m : Nat) : Prop := ∀ S : Nat → Prop, (∀ k ∈ impP ss s, S k) → (∀ k, S k → ∀ j ∈ impP ss k, S j) → S m
theorem Reach.one {ss : List Sc} {s m : Nat} (h : m ∈ impP ss s) : Reach ss s m := fun _ h1 _ => h1 m h
theorem Reach.step {ss : List Sc} {s k m : Nat} (h : Reach ss s k) (hm : m ∈ impP ss k) : Reach ss s m := fun S h1 h2 => h2 k (h S h1 h2) m hm
theorem Reach.ahead {ss : List Sc} {s k m : Nat} (h : k ∈ impP ss s) (r : Reach ss k m) : Reach ss s m := fun S h1 h2 => r S (fun j hj => h2 k (h1 k h) j hj) h2
noncomputable def reachB (ss : List Sc) (s m : Nat) : Bool := @decide (Reach ss s m) (Classical.propDecidable _)
theorem reachB_iff {ss : List Sc} {s m : Nat} : reachB ss s m = true ↔ Reach ss s m := by
  unfold reachB
  simp
/-- The scopes that come back to themselves. -/
noncomputable def circUp (ss : List Sc) (k : Nat) : List Nat := (List.range k).filter fun m => reachB ss m m
noncomputable def circP (ss : List Sc) : List Nat := circUp ss ss.length
theorem circUp_snoc (ss : List Sc) (k : Nat) : circUp ss (k + 1) = circUp ss k ++ if reachB ss k k = true then [k] else [] := by
  unfold circUp
  rw [List.range_succ, List.filter_append]
  congr 1
  by_cases h : reachB ss k k = true
  · simp [h]
  · simp [h]
theorem circUp_length (ss : List Sc) (k : Nat) : (circUp ss k).length ≤ k := by
  have := List.length_filter_le (fun m => reachB ss m m) (List.range k)
  unfold circUp
  simpa using this
theorem mem_circP {ss : List Sc} {m : Nat} : m ∈ circP ss ↔ m < ss.length ∧ Reach ss m m := by
  unfold circP circUp
  rw [List.mem_filter, List.mem_range, reachB_iff]
/-- A scope put into a set. -/
def putS (S : Nat → Bool) (m : Nat) : Nat → Bool := fun j => if j = m then true else S j
theorem putS_iff {S : Nat → Bool} {m k : Nat} : putS S m k = true ↔ k = m ∨ S k = true := by
  unfold putS
  by_cases h : k = m
  · simp [h]
  · simp [h]
/-- What a search by depth leaves: from a set S with the scopes of src. -/
structure Dfs (ss : List Sc) (src : List Nat) (S S' : Nat → Bool) : Prop where
  grow : ∀ m, S m = true → S' m = true
  has : ∀ m ∈ src, S' m = true
  closed : ∀ m, S' m = true → S m = true ∨ ∀ k ∈ impP ss m, S' k = true
  sound : ∀ m, S' m = true → S m = true ∨ ∃ a ∈ src, a = m ∨ Reach ss a m
theorem Dfs.nil (ss : List Sc) (S : Nat → Bool) : Dfs ss [] S S := ⟨fun _ h => h, fun _ h => (by cases h), fun _ h => .inl h, fun _ h => .inl h⟩
theorem Dfs.old {ss : List Sc} {l : List Nat} {S S1 : Nat → Bool} {m : Nat} (h : Dfs ss l S S1) (hm : S1 m = true) : Dfs ss (l ++ [m]) S S1 where
  grow := h.grow
  has := fun k hk => by
    rw [List.mem_append, List.mem_singleton] at hk
    rcases hk with hk | rfl
    · exact h.has k hk
    · exact hm
  closed := h.closed
  sound := fun k hk => (h.sound k hk).imp id fun ⟨a, ha, h1⟩ => ⟨a, List.mem_append_left _ ha, h1⟩
theorem Dfs.new {ss : List Sc} {l : List Nat} {S S1 S2 : Nat → Bool} {m : Nat} (h : Dfs ss l S S1) (k : Dfs ss (impP ss m) (putS S1 m) S2) : Dfs ss (l ++ [m]) S S2 where
  grow := fun j hj => k.grow j (putS_iff.2 (.inr (h.grow j hj)))
  has := fun j hj => by
    rw [List.mem_append, List.mem_singleton] at hj
    rcases hj with hj | rfl
    · exact k.grow j (putS_iff.2 (.inr (h.has j hj)))
    · exact k.grow j (putS_iff.2 (.inl rfl))
  closed := fun j hj => by
    rcases k.closed j hj with h1 | h1
    · rcases putS_iff.1 h1 with rfl | h2
      · exact .inr k.has
      · exact (h.closed j h2).imp id fun h3 i hi => k.grow i (putS_iff.2 (.inr (h3 i hi)))
    · exact .inr h1
  sound := fun j hj => by
    rcases k.sound j hj with h1 | ⟨a, ha, h1⟩
    · rcases putS_iff.1 h1 with rfl | h2
      · exact .inr ⟨j, by simp, .inl rfl⟩
      · exact (h.sound j h2).imp id fun ⟨a, ha, h1⟩ => ⟨a, List.mem_append_left _ ha, h1⟩
    · refine .inr ⟨m, by simp, .inr ?_⟩
      rcases h1 with rfl | h1
      · exact .one ha
      · exact .ahead ha h1
theorem Dfs.reach {ss : List Sc} {s : Nat} {S : Nat → Bool} (h : Dfs ss (impP ss s) (fun _ => false) S) (m : Nat) : S m = reachB ss s m := by
  rw [Bool.eq_iff_iff, reachB_iff]
  constructor
  · intro hm
    rcases h.sound m hm with h1 | ⟨a, ha, h1⟩
    · cases h1
    · rcases h1 with rfl | h1
      · exact .one ha
      · exact .ahead ha h1
  · intro r
    exact r (fun j => S j = true) h.has fun k hk j hj => by
      rcases h.closed k hk with h1 | h1
      · cases h1
      · exact h1 j hj
/-- How many scopes are not in a set. -/
def gaps (S : Nat → Bool) : Nat := (List.range 6).countP fun m => !S m
theorem countP_lt {p q : Nat → Bool} : ∀ {l : List Nat}, (∀ x, p x = true → q x = true) → ∀ {a : Nat}, a ∈ l → q a = true → p a = false → l.countP p < l.countP q
  | x :: r, h, a, ha, hq, hp => by
    rw [List.countP_cons, List.countP_cons]
    have hmono : r.countP p ≤ r.countP q := List.countP_mono_left fun y _ hy => h y hy
    rcases List.mem_cons.1 ha with rfl | ha
    · simp [hq, hp]; omega
    · have := countP_lt h ha hq hp
      by_cases hx : p x = true
      · simp [hx, h x hx]; omega
      · by_cases hy : q x = true <;> simp [hx, hy] <;> omega
theorem gaps_put {S : Nat → Bool} {m : Nat} (hm : m < 6) (h : S m = false) : gaps (putS S m) < gaps S := by
  unfold gaps
  refine countP_lt (a := m) (fun x hx => ?_) (List.mem_range.2 hm) (by simp [h]) (by simp [putS])
  unfold putS at hx
  split at hx
  · simp at hx
  · exact hx
theorem Dfs.gaps {ss : List Sc} {l : List Nat} {S S' : Nat → Bool} (h : Dfs ss l S S') : gaps S' ≤ gaps S := by
  unfold Go.Proofs.YtmfglfhloahmlaaDoor.gaps
  refine List.countP_mono_left fun x _ hx => ?_
  cases hS : S x with
  | false => rfl
  | true => rw [h.grow x hS] at hx; exact hx
/-- How far a search by breadth from s is: what it has found, and what it has still to look at. -/
structure Bfs (ss : List Sc) (s : Nat) (out todo : List Nat) (at' : Nat → Prop) : Prop where
  nodup : out.Nodup
  lt : ∀ m ∈ out, m < ss.length
  sub : ∀ m ∈ todo, m = s ∨ m ∈ out
  sound : ∀ m ∈ out, Reach ss s m
  closed : ∀ m, (m = s ∨ m ∈ out) → m ∈ todo ∨ at' m ∨ ∀ k ∈ impP ss m, k ∈ out
theorem Bfs.start (ss : List Sc) (s : Nat) : Bfs ss s [] [s] (fun _ => False) := ⟨by simp, by simp, by simp, by simp, fun m h => by
  rcases h with rfl | h
  · simp
  · simp at h⟩
theorem Bfs.pop {ss : List Sc} {s k : Nat} {out todo : List Nat} (h : Bfs ss s out (k :: todo) (fun _ => False)) : Bfs ss s out todo (fun m => m = k) where
  nodup := h.nodup
  lt := h.lt
  sub := fun m hm => h.sub m (List.mem_cons_of_mem _ hm)
  sound := h.sound
  closed := fun m hm => by
    rcases h.closed m hm with h1 | h1 | h1
    · rcases List.mem_cons.1 h1 with rfl | h1
      · exact .inr (.inl rfl)
      · exact .inl h1
    · exact absurd h1 id
    · exact .inr (.inr h1)
theorem Bfs.push {ss : List Sc} {s k m : Nat} {out todo : List Nat} (hv : Valid ss) (h : Bfs ss s out todo (fun j => j = k)) (hk : k = s ∨ k ∈ out) (hm : m ∈ impP ss k) (hn : m ∉ out) : Bfs ss s (out ++ [m]) (todo ++ [m]) (fun j => j = k) where
  nodup := by
    rw [List.nodup_append]
    refine ⟨h.nodup, by simp, ?_⟩
    rintro a ha b hb rfl
    rw [List.mem_singleton] at hb
    exact hn (hb ▸ ha)
  lt := fun j hj => by
    rw [List.mem_append, List.mem_singleton] at hj
    rcases hj with hj | rfl
    · exact h.lt j hj
    · exact (impP_ok hv k).1 j hm
  sub := fun j hj => by
    rw [List.mem_append, List.mem_singleton] at hj ⊢
    rcases hj with hj | rfl
    · exact (h.sub j hj).imp id .inl
    · exact .inr (.inr rfl)
  sound := fun j hj => by
    rw [List.mem_append, List.mem_singleton] at hj
    rcases hj with hj | rfl
    · exact h.sound j hj
    · rcases hk with rfl | hk
      · exact .one hm
      · exact (h.sound k hk).step hm
  closed := fun j hj => by
    rw [List.mem_append, List.mem_singleton] at hj
    have old : (j = s ∨ j ∈ out) → j ∈ todo ++ [m] ∨ j = k ∨ ∀ i ∈ impP ss j, i ∈ out ++ [m] := fun h0 => by
      rcases h.closed j h0 with h1 | h1 | h1
      · exact .inl (List.mem_append_left _ h1)
      · exact .inr (.inl h1)
      · exact .inr (.inr fun i hi => List.mem_append_left _ (h1 i hi))
    rcases hj with rfl | hj | rfl
    · exact old (.inl rfl)
    · exact old (.inr hj)
    · exact .inl (by simp)
theorem Bfs.done {ss : List Sc} {s k : Nat} {out todo : List Nat} (h : Bfs ss s out todo (fun j => j = k)) (hd : ∀ m ∈ impP ss k, m ∈ out) : Bfs ss s out todo (fun _ => False) where
  nodup := h.nodup
  lt := h.lt
  sub := h.sub
  sound := h.sound
  closed := fun j hj => by
    rcases h.closed j hj with h1 | rfl | h1
    · exact .inl h1
    · exact .inr (.inr hd)
    · exact .inr (.inr h1)
theorem Bfs.length {ss : List Sc} {s : Nat} {out todo : List Nat} {p : Nat → Prop} (h : Bfs ss s out todo p) : out.length ≤ ss.length := length_le_of_nodup_lt h.nodup h.lt
theorem Bfs.reach {ss : List Sc} {s : Nat} {out : List Nat} (h : Bfs ss s out [] (fun _ => False)) (m : Nat) : m ∈ out ↔ Reach ss s m := by
  constructor
  · exact h.sound m
  · intro r
    have step : ∀ j, (j = s ∨ j ∈ out) → ∀ k ∈ impP ss j, k ∈ out := fun j hj => by
      rcases h.closed j hj with h1 | h1 | h1
      · cases h1
      · exact absurd h1 id
      · exact h1
    exact r (fun j => j ∈ out) (step s (.inl rfl)) fun k hk j hj => step k (.inr hk) j hj
end Go.Proofs.YtmfglfhloahmlaaDoor
