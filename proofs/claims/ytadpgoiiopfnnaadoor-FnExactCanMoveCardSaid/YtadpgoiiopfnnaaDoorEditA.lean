/-
  A graph with an item more behind those of one scope: it is valid where the graph is and the scope has room. Plain facts.
-/
import Derived.Test.YtadpgoiiopfnnaaDoorRmvA
namespace Go.Proofs.YtadpgoiiopfnnaaDoor
open Go Go.RowKit
def addSc (x : It) (s : Sc) : Sc := ⟨s.parent, s.items ++ [x]⟩
/-- The graph with an item behind those of the scope a. -/
def addP : List Sc → Nat → It → List Sc
  | [], _, _ => []
  | s :: r, 0, x => addSc x s :: r
  | s :: r, a + 1, x => s :: addP r a x
theorem addP_length : ∀ (ss : List Sc) (a : Nat) (x : It), (addP ss a x).length = ss.length
  | [], _, _ => rfl
  | s :: r, 0, x => rfl
  | s :: r, a + 1, x => by simp [addP, addP_length r a x]
theorem addP_get : ∀ (ss : List Sc) (a : Nat) (x : It) (i : Nat), (addP ss a x)[i]? = (ss[i]?).map fun s => if i = a then addSc x s else s
  | [], a, x, i => by simp [addP]
  | s :: r, 0, x, 0 => by simp [addP]
  | s :: r, 0, x, i + 1 => by simp [addP]
  | s :: r, a + 1, x, 0 => by simp [addP]
  | s :: r, a + 1, x, i + 1 => by simp [addP, addP_get r a x i]
theorem addP_same {ss : List Sc} {a : Nat} {x : It} {s : Sc} (h : ss[a]? = some s) : (addP ss a x)[a]? = some (addSc x s) := by rw [addP_get, h]; simp
theorem addP_other {ss : List Sc} {a i : Nat} {x : It} (h : i ≠ a) : (addP ss a x)[i]? = ss[i]? := by
  rw [addP_get]
  cases ss[i]? <;> simp [h]
theorem mem_addP : ∀ {ss : List Sc} {a : Nat} {x : It} {t : Sc}, t ∈ addP ss a x → t ∈ ss ∨ ∃ s, ss[a]? = some s ∧ t = addSc x s
  | s :: r, 0, x, t, h => by
    have h' : t ∈ addSc x s :: r := h
    rcases List.mem_cons.1 h' with rfl | h'
    · exact .inr ⟨s, rfl, rfl⟩
    · exact .inl (List.mem_cons_of_mem _ h')
  | s :: r, a + 1, x, t, h => by
    have h' : t ∈ s :: addP r a x := h
    rcases List.mem_cons.1 h' with rfl | h'
    · exact .inl List.mem_cons_self
    · rcases mem_addP h' with h2 | ⟨u, h1, h2⟩
      · exact .inl (List.mem_cons_of_mem _ h2)
      · exact .inr ⟨u, h1, h2⟩
/-- Where the new item stands among all. -/
theorem add_flat : ∀ (ss : List Sc) (a : Nat) (x : It) (i : Nat), a < ss.length → ∃ l r, flat i ss = l ++ r ∧ flat i (addP ss a x) = l ++ (i + a, x) :: r
  | [], _, _, _, h => absurd h (Nat.not_lt_zero _)
  | s :: r, 0, x, i, _ => ⟨s.items.map (fun y => (i, y)), flat (i + 1) r, rfl, by simp [addP, flat, addSc]⟩
  | s :: r, a + 1, x, i, h => by
    obtain ⟨l, q, h1, h2⟩ := add_flat r a x (i + 1) (by simpa using h)
    refine ⟨s.items.map (fun y => (i, y)) ++ l, q, ?_, ?_⟩
    · show s.items.map (fun y => (i, y)) ++ flat (i + 1) r = _
      rw [h1, List.append_assoc]
    · show s.items.map (fun y => (i, y)) ++ flat (i + 1) (addP r a x) = _
      rw [h2, List.append_assoc, show i + 1 + a = i + (a + 1) by omega]
theorem add_parent (ss : List Sc) (a : Nat) (x : It) (i : Nat) : (addP ss a x)[i]?.map Sc.parent = ss[i]?.map Sc.parent := by
  rw [addP_get]
  cases ss[i]? with
  | none => rfl
  | some s => by_cases h : i = a <;> simp [h, addSc]
theorem add_modB (ss : List Sc) (a : Nat) (y : It) (i : Nat) (x : It) : modB (addP ss a y) i x = modB ss i x := by
  unfold modB
  rw [addP_length, add_parent]
theorem Valid.add {ss : List Sc} (h : Valid ss) {a : Nat} {s : Sc} {x : It} (hs : ss[a]? = some s) (hl : s.items.length < 5) (hx : itemB x = true) (hm : x.scope = -1) : Valid (addP ss a x) where
  count := by rw [addP_length]; exact h.count
  scopes := fun i t ht => by
    rw [addP_get] at ht
    cases hs2 : ss[i]? with
    | none => rw [hs2] at ht; cases ht
    | some u =>
      rw [hs2] at ht
      have h1 := h.scopes i u hs2
      simp only [Option.map_some, Option.some.injEq] at ht
      subst ht
      by_cases hi : i = a
      · subst hi
        rw [hs] at hs2
        obtain rfl := Option.some.inj hs2
        rw [if_pos rfl]
        unfold scopeB at h1 ⊢
        simp only [Bool.and_eq_true, decide_eq_true_eq] at h1 ⊢
        exact ⟨by simp [addSc]; omega, h1.2⟩
      · rw [if_neg hi]; exact h1
  items := by
    obtain ⟨l, r, h1, h2⟩ := add_flat ss a x 0 (List.getElem?_eq_some_iff.1 hs).1
    have h3 := h.items
    rw [h1] at h3
    rw [h2]
    refine ⟨fun q hq => ?_, ?_⟩
    · rw [add_modB]
      rcases List.mem_append.1 hq with hq | hq
      · exact h3.1 q (List.mem_append_left _ hq)
      · rcases List.mem_cons.1 hq with rfl | hq
        · exact ⟨hx, by simp [modB, hm]⟩
        · exact h3.1 q (List.mem_append_right _ hq)
    · have h4 := h3.2
      rw [List.map_append, modsOf_append] at h4 ⊢
      rw [List.map_cons, show x :: r.map Prod.snd = [x] ++ r.map Prod.snd from rfl, modsOf_append, modsOf_one, if_pos hm]
      exact h4
/-- A valid graph is fair where its numbers are. -/
theorem Fair.add {ss : List Sc} (h : Fair ss) {a : Nat} {s : Sc} {x : It} (hs : ss[a]? = some s) (hl : s.items.length < 5) (hn : x.name.size ≤ 2 ^ 63 - 1) (hk : Sg.I64 x.kind ∧ Sg.I64 x.scope) : Fair (addP ss a x) where
  count := by rw [addP_length]; exact h.count
  items := fun t ht => by
    rcases mem_addP ht with h1 | ⟨u, h1, rfl⟩
    · exact h.items t h1
    · rw [hs] at h1
      obtain rfl := Option.some.inj h1
      simp [addSc]; omega
  fits := ⟨by rw [addP_length]; exact h.fits.1, fun t ht => by
    rcases mem_addP ht with h1 | ⟨u, h1, rfl⟩
    · exact h.fits.2 t h1
    · rw [hs] at h1
      obtain rfl := Option.some.inj h1
      have h3 := h.fits.2 s (List.mem_of_getElem? hs)
      refine ⟨by simp [addSc]; omega, fun y hy => ?_⟩
      rcases List.mem_append.1 (show y ∈ s.items ++ [x] from hy) with hy | hy
      · exact h3.2 y hy
      · obtain rfl := List.mem_singleton.1 hy
        exact hn⟩
  nums := fun t ht => by
    rcases mem_addP ht with h1 | ⟨u, h1, rfl⟩
    · exact h.nums t h1
    · rw [hs] at h1
      obtain rfl := Option.some.inj h1
      have h3 := h.nums s (List.mem_of_getElem? hs)
      refine ⟨h3.1, fun y hy => ?_⟩
      rcases List.mem_append.1 (show y ∈ s.items ++ [x] from hy) with hy | hy
      · exact h3.2 y hy
      · obtain rfl := List.mem_singleton.1 hy
        exact hk
end Go.Proofs.YtadpgoiiopfnnaaDoor
