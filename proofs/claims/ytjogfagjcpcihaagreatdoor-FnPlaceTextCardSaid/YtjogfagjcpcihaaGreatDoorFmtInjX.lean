/-
  Texts of numbers and of places tell them apart: the numeral of a number, the text of a place and the text of a list of these are told by the text. Plain facts; no condition.
-/
import Derived.Test.YtjogfagjcpcihaaGreatDoorJAX
namespace Go.Proofs.YtjogfagjcpcihaaGreatDoor.Sg
open Go Go.Lib
theorem valF_dec : ∀ u : Nat, valF 0 (decDigits u) = u := by
  intro u
  induction u using Nat.strongRecOn with
  | ind u ih =>
    rw [decDigits]
    by_cases h : u < 10
    · rw [dif_pos h, valF_cons]
      simp only [valF, List.foldl_nil, UInt8.toNat_ofNat']
      omega
    · rw [dif_neg h, valF_snoc, ih (u / 10) (by omega), UInt8.toNat_ofNat']
      omega
theorem decDigits_inj {a b : Nat} (h : decDigits a = decDigits b) : a = b := by rw [← valF_dec a, h, valF_dec]
theorem itoa_mem {n : Int} {b : UInt8} (h : b ∈ itoa n) : isDig b = true ∨ b = 45 := by
  unfold itoa at h
  split at h
  · rcases List.mem_cons.1 h with h | h
    · exact .inr h
    · exact .inl (List.all_eq_true.1 (decDigits_all _) b h)
  · exact .inl (List.all_eq_true.1 (decDigits_all _) b h)
theorem itoa_no {n : Int} {c : UInt8} (h1 : isDig c = false) (h2 : c ≠ 45) : c ∉ itoa n := by
  intro h
  rcases itoa_mem h with h | h
  · rw [h1] at h; cases h
  · exact h2 h
theorem neg_not_dec {l : List UInt8} {u : Nat} : 45 :: l ≠ decDigits u := by
  intro h
  have := List.all_eq_true.1 (decDigits_all u) 45 (by rw [← h]; simp)
  revert this; decide
theorem itoa_inj {a b : Int} (h : itoa a = itoa b) : a = b := by
  unfold itoa at h
  by_cases ha : a < 0 <;> by_cases hb : b < 0
  · rw [if_pos ha, if_pos hb] at h
    have := decDigits_inj (List.cons.inj h).2
    omega
  · rw [if_pos ha, if_neg hb] at h; exact absurd h neg_not_dec
  · rw [if_neg ha, if_pos hb] at h; exact absurd h.symm neg_not_dec
  · rw [if_neg ha, if_neg hb] at h
    have := decDigits_inj h
    omega
/-- The text of a list of texts, as listText gives it. -/
def txtL (xs : List (List UInt8)) : List UInt8 := if xs = [] then [45] else join xs [32]
theorem join_cut (x y : List UInt8) (r : List (List UInt8)) : join (x :: y :: r) [32] = x ++ 32 :: join (y :: r) [32] := by
  simp only [join, List.intercalate, List.intersperse_cons_cons, List.flatten_cons, List.cons_append, List.nil_append]
theorem join_parts : ∀ {xs : List (List UInt8)}, xs ≠ [] → (∀ x ∈ xs, (32 : UInt8) ∉ x) → parts 32 (join xs [32]) = xs
  | [], h, _ => absurd rfl h
  | [x], _, h => by rw [join_one]; exact parts_none (h x (by simp))
  | x :: y :: r, _, h => by
    rw [join_cut, parts_app (h x (by simp)), join_parts (by simp) (fun z hz => h z (by simp at hz ⊢; exact .inr hz))]
theorem txtL_inj {xs ys : List (List UInt8)} (hx : ∀ x ∈ xs, (32 : UInt8) ∉ x ∧ x ≠ [45]) (hy : ∀ x ∈ ys, (32 : UInt8) ∉ x ∧ x ≠ [45]) (h : txtL xs = txtL ys) : xs = ys := by
  have one : parts 32 [45] = [[45]] := parts_none (by decide)
  unfold txtL at h
  by_cases h1 : xs = [] <;> by_cases h2 : ys = []
  · rw [h1, h2]
  · rw [if_pos h1, if_neg h2] at h
    have := join_parts h2 (fun x hm => (hy x hm).1)
    rw [← h, one] at this
    exact absurd rfl (hy [45] (by rw [← this]; simp)).2
  · rw [if_neg h1, if_pos h2] at h
    have := join_parts h1 (fun x hm => (hx x hm).1)
    rw [h, one] at this
    exact absurd rfl (hx [45] (by rw [← this]; simp)).2
  · rw [if_neg h1, if_neg h2] at h
    rw [← join_parts h1 (fun x hm => (hx x hm).1), h, join_parts h2 (fun x hm => (hy x hm).1)]
theorem map_inj_of {α β : Type} {f : α → β} (hf : ∀ a b, f a = f b → a = b) : ∀ {xs ys : List α}, xs.map f = ys.map f → xs = ys
  | [], [], _ => rfl
  | [], _ :: _, h => by cases h
  | _ :: _, [], h => by cases h
  | x :: r, y :: s, h => by
    have := List.cons.inj h
    rw [hf x y this.1, map_inj_of hf this.2]
theorem placesText_txt (ps : List (Int × Int)) : placesText ps = txtL (ps.map pText) := by
  unfold placesText txtL
  cases ps <;> simp
theorem pText_parts (p : Int × Int) : parts 46 (pText p) = [itoa p.1, itoa p.2] := by
  unfold pText
  rw [parts_app (itoa_no (by decide) (by decide)), parts_none (itoa_no (by decide) (by decide))]
theorem pText_inj {p q : Int × Int} (h : pText p = pText q) : p = q := by
  have h1 := pText_parts p
  rw [h, pText_parts q] at h1
  simp only [List.cons.injEq, and_true] at h1
  exact Prod.ext (itoa_inj h1.1).symm (itoa_inj h1.2).symm
theorem pText_no (p : Int × Int) : (32 : UInt8) ∉ pText p ∧ pText p ≠ [45] := by
  constructor
  · unfold pText
    intro h
    rcases List.mem_append.1 h with h | h
    · exact itoa_no (by decide) (by decide) h
    · rcases List.mem_cons.1 h with h | h
      · revert h; decide
      · exact itoa_no (by decide) (by decide) h
  · intro h
    have h1 := pText_parts p
    rw [h] at h1
    exact absurd h1 (by rw [parts_none (by decide)]; simp)
theorem placesText_inj {a b : List (Int × Int)} (h : placesText a = placesText b) : a = b := by
  rw [placesText_txt, placesText_txt] at h
  exact map_inj_of (fun _ _ => pText_inj) (txtL_inj (fun x hx => by obtain ⟨n, _, rfl⟩ := List.mem_map.1 hx; exact pText_no n) (fun x hx => by obtain ⟨n, _, rfl⟩ := List.mem_map.1 hx; exact pText_no n) h)
end Go.Proofs.YtjogfagjcpcihaaGreatDoor.Sg
