/-
  Texts of numbers and of places tell them apart: the numeral of a number, the text of a place and the text of a list of these are told by the text. Plain facts; no condition.
-/
import Derived.Test.YtjogfagjcpcihaaDoorJA
namespace Go.Proofs.YtjogfagjcpcihaaDoor.Sg
open Go Go.Lib
theorem valF_dec : ∀ u : Nat, valF 0 (decDigits u) = u := by
  intro u
  induction u using Nat.strongRecOn with
  | ind u ih =>
    rw [decDigits]
    by_cases h : u < 10
    · rw [dif_pos h, valF_cons]
      simp only [valF, List.foldl_nil, UInt8.toNat_ofNat']
      omega
    · rw [dif_neg h, valF_snoc, ih (u / 10) (by omega), UInt8.toNat_ofNat']
      omega
theorem decDigits_inj {a b : Nat} (h : decDigits a = decDigits b) : a = b := by rw [← valF_dec a, h, valF_dec]
theorem itoa_mem {n : Int} {b : UInt8} (h : b ∈ itoa n) : isDig b = true ∨ b = 45 := by
  unfold itoa at h
  split at h
  · rcases List.mem_cons.1 h with h | h
    · exact .inr h
    · exact .inl (List.all_eq_true.1 (decDigits_all _) b h)
  · exact .inl (List.all_eq_true.1 (decDigits_all _) b h)
theorem itoa_no {n : Int} {c : UInt8} (h1 : isDig c = false) (h2 : c ≠ 45) : c ∉ itoa n := by
  intro h
  rcases itoa_mem h with h | h
  · rw [h1] at h; cases h
  · exact h2 h
theorem neg_not_dec {l : List UInt8} {u : Nat} : 45 :: l ≠ decDigits u := by
  intro h
  have := List.all_eq_true.1 (decDigits_all u) 45 (by rw [← h]; simp)
  revert this; decide
theorem itoa_inj {a b : Int} (h : itoa a = itoa b) : a = b := by
  unfold itoa at h
  by_cases ha : a < 0 <;> by_cases hb : b < 0
  · rw [if_pos ha, if_pos hb] at h
    have := decDigits_inj (List.cons.inj h).2
    omega
  · rw [if_pos ha, if_neg hb] at h; exact absurd h neg_not_dec
  · rw [if_neg ha, if_pos hb] at h; exact absurd h.symm neg_not_dec
  · rw [if_neg ha, if_neg hb] at h
    have := decDigits_inj h
    omega
theorem itoa_not_dash (n : Int) : itoa n ≠ [45] := by
  unfold itoa
  split
  · intro h; exact decDigits_ne _ (List.cons.inj h).2
  · intro h; exact neg_not_dec h.symm
theorem itoa_ne (n : Int) : itoa n ≠ [] := by
  unfold itoa
  split
  · intro h; cases h
  · exact decDigits_ne _
/-- The text of a list of texts, as listText gives it. -/
def txtL (xs : List (List UInt8)) : List UInt8 := if xs = [] then [45] else join xs [32]
theorem join_cut (x y : List UInt8) (r : List (List UInt8)) : join (x :: y :: r) [32] = x ++ 32 :: join (y :: r) [32] := by
  simp only [join, List.intercalate, List.intersperse_cons_cons, List.flatten_cons, List.cons_append, List.nil_append]
theorem join_parts : ∀ {xs : List (List UInt8)}, xs ≠ [] → (∀ x ∈ xs, (32 : UInt8) ∉ x) → parts 32 (join xs [32]) = xs
  | [], h, _ => absurd rfl h
  | [x], _, h => by rw [join_one]; exact parts_none (h x (by simp))
  | x :: y :: r, _, h => by
    rw [join_cut, parts_app (h x (by simp)), join_parts (by simp) (fun z hz => h z (by simp at hz ⊢; exact .inr hz))]
theorem txtL_inj {xs ys : List (List UInt8)} (hx : ∀ x ∈ xs, (32 : UInt8) ∉ x ∧ x ≠ [45]) (hy : ∀ x ∈ ys, (32 : UInt8) ∉ x ∧ x ≠ [45]) (h : txtL xs = txtL ys) : xs = ys := by
  have one : parts 32 [45] = [[45]] := parts_none (by decide)
  unfold txtL at h
  by_cases h1 : xs = [] <;> by_cases h2 : ys = []
  · rw [h1, h2]
  · rw [if_pos h1, if_neg h2] at h
    have := join_parts h2 (fun x hm => (hy x hm).1)
    rw [← h, one] at this
    exact absurd rfl (hy [45] (by rw [← this]; simp)).2
  · rw [if_neg h1, if_pos h2] at h
    have := join_parts h1 (fun x hm => (hx x hm).1)
    rw [h, one] at this
    exact absurd rfl (hx [45] (by rw [← this]; simp)).2
  · rw [if_neg h1, if_neg h2] at h
    rw [← join_parts h1 (fun x hm => (hx x hm).1), h, join_parts h2 (fun x hm => (hy x hm).1)]
theorem map_inj_of {α β : Type} {f : α → β} (hf : ∀ a b, f a = f b → a = b) : ∀ {xs ys : List α}, xs.map f = ys.map f → xs = ys
  | [], [], _ => rfl
  | [], _ :: _, h => by cases h
  | _ :: _, [], h => by cases h
  | x :: r, y :: s, h => by
    have := List.cons.inj h
    rw [hf x y this.1, map_inj_of hf this.2]
/-- The first k texts, with blanks between them. -/
def outL (xs : List (List UInt8)) (k : Nat) : List UInt8 := join (xs.take k) [32]
theorem outL_zero (xs : List (List UInt8)) : outL xs 0 = [] := by simp [outL, join_nil]
theorem outL_one {xs : List (List UInt8)} {x : List UInt8} (h : xs[0]? = some x) : outL xs 1 = x := by
  cases xs with
  | nil => simp at h
  | cons q r => simp at h; subst h; simp [outL, join_one]
theorem outL_succ {xs : List (List UInt8)} {k : Nat} {x : List UInt8} (hk : 0 < k) (h : xs[k]? = some x) : outL xs (k + 1) = outL xs k ++ 32 :: x := by
  have hl := (List.getElem?_eq_some_iff.1 h).1
  unfold outL
  rw [List.take_add_one, h]
  exact join_snoc _ _ (by intro e; have := congrArg List.length e; rw [List.length_take, List.length_nil] at this; omega)
theorem outL_len {xs : List (List UInt8)} {L : Nat} (hp : ∀ x ∈ xs, x.length ≤ L) : ∀ k, k ≤ xs.length → (outL xs k).length ≤ (L + 1) * k
  | 0, _ => by rw [outL_zero]; simp
  | k + 1, h => by
    have hk : k < xs.length := by omega
    have hg : xs[k]? = some xs[k] := List.getElem?_eq_getElem hk
    have hl := hp xs[k] (List.getElem_mem hk)
    have ih := outL_len hp k (by omega)
    rw [Nat.mul_add]
    rcases Nat.eq_zero_or_pos k with h0 | h0
    · subst h0; rw [outL_one hg]; omega
    · rw [outL_succ h0 hg, List.length_append, List.length_cons]; omega
theorem outL_all (xs : List (List UInt8)) : outL xs xs.length = join xs [32] := by unfold outL; rw [List.take_length]
theorem outL_ne {xs : List (List UInt8)} (hne : ∀ x ∈ xs, x ≠ []) {k : Nat} (h0 : 0 < k) (hk : k ≤ xs.length) : outL xs k ≠ [] := by
  obtain ⟨j, rfl⟩ : ∃ j, k = j + 1 := ⟨k - 1, by omega⟩
  have hg : xs[j]? = some xs[j] := List.getElem?_eq_getElem (by omega)
  rcases Nat.eq_zero_or_pos j with h | h
  · subst h; rw [outL_one hg]; exact hne _ (List.getElem_mem _)
  · rw [outL_succ h hg]; simp
/-- The text of a list of numbers. -/
def numsText (ns : List Int) : List UInt8 := txtL (ns.map itoa)
theorem numsText_inj {a b : List Int} (h : numsText a = numsText b) : a = b :=
  map_inj_of (fun _ _ => itoa_inj) (txtL_inj (fun x hx => by obtain ⟨n, _, rfl⟩ := List.mem_map.1 hx; exact ⟨itoa_no (by decide) (by decide), itoa_not_dash n⟩)
    (fun x hx => by obtain ⟨n, _, rfl⟩ := List.mem_map.1 hx; exact ⟨itoa_no (by decide) (by decide), itoa_not_dash n⟩) h)
theorem placesText_txt (ps : List (Int × Int)) : placesText ps = txtL (ps.map pText) := by
  unfold placesText txtL
  cases ps <;> simp
theorem pText_parts (p : Int × Int) : parts 46 (pText p) = [itoa p.1, itoa p.2] := by
  unfold pText
  rw [parts_app (itoa_no (by decide) (by decide)), parts_none (itoa_no (by decide) (by decide))]
theorem pText_inj {p q : Int × Int} (h : pText p = pText q) : p = q := by
  have h1 := pText_parts p
  rw [h, pText_parts q] at h1
  simp only [List.cons.injEq, and_true] at h1
  exact Prod.ext (itoa_inj h1.1).symm (itoa_inj h1.2).symm
theorem pText_no (p : Int × Int) : (32 : UInt8) ∉ pText p ∧ pText p ≠ [45] := by
  constructor
  · unfold pText
    intro h
    rcases List.mem_append.1 h with h | h
    · exact itoa_no (by decide) (by decide) h
    · rcases List.mem_cons.1 h with h | h
      · revert h; decide
      · exact itoa_no (by decide) (by decide) h
  · intro h
    have h1 := pText_parts p
    rw [h] at h1
    exact absurd h1 (by rw [parts_none (by decide)]; simp)
theorem placesText_inj {a b : List (Int × Int)} (h : placesText a = placesText b) : a = b := by
  rw [placesText_txt, placesText_txt] at h
  exact map_inj_of (fun _ _ => pText_inj) (txtL_inj (fun x hx => by obtain ⟨n, _, rfl⟩ := List.mem_map.1 hx; exact pText_no n) (fun x hx => by obtain ⟨n, _, rfl⟩ := List.mem_map.1 hx; exact pText_no n) h)
end Go.Proofs.YtjogfagjcpcihaaDoor.Sg
