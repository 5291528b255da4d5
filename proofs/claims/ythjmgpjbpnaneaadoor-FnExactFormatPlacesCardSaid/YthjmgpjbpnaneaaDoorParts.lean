/-
  Plain facts about a text cut at a byte: 'parts c l' are the pieces of l between the bytes c, at least one; how a loop that cuts comes to them; and when there are just two. No condition; nothing of the program.
-/
import Derived.Lib.IndexMore
import Derived.Lib.IndexLaws
namespace Go.Proofs.YthjmgpjbpnaneaaDoor.Sg
open Go Go.Lib

/-- p ahead of the first piece. -/
def glue (p : List UInt8) : List (List UInt8) → List (List UInt8)
  | [] => [p]
  | q :: qs => (p ++ q) :: qs
/-- The pieces of a text between the bytes c. -/
def parts (c : UInt8) : List UInt8 → List (List UInt8)
  | [] => [[]]
  | b :: r => if b = c then [] :: parts c r else glue [b] (parts c r)
theorem parts_eq (c : UInt8) (r : List UInt8) : parts c (c :: r) = [] :: parts c r := by rw [parts, if_pos rfl]
theorem parts_neq {c b : UInt8} (h : b ≠ c) (r : List UInt8) : parts c (b :: r) = glue [b] (parts c r) := by rw [parts, if_neg h]
theorem parts_ne (c : UInt8) (l : List UInt8) : parts c l ≠ [] := by
  cases l with
  | nil => simp [parts]
  | cons b r =>
    unfold parts
    by_cases h : b = c
    · rw [if_pos h]; simp
    · rw [if_neg h]; cases parts c r <;> simp [glue]
theorem glue_nil {ps : List (List UInt8)} (h : ps ≠ []) : glue [] ps = ps := by
  cases ps with
  | nil => exact absurd rfl h
  | cons q qs => rfl
theorem glue_glue (p q : List UInt8) (ps : List (List UInt8)) : glue p (glue q ps) = glue (p ++ q) ps := by
  cases ps <;> simp [glue]
/-- What has been cut off and what is left, k bytes being read, f the beginning of the piece that is being read. -/
def Cutting (c : UInt8) (l : List UInt8) (done : List (List UInt8)) (f k : Nat) : Prop :=
  if k ≤ l.length then f ≤ k ∧ parts c l = done ++ glue ((l.drop f).take (k - f)) (parts c (l.drop k)) else parts c l = done
theorem Cutting.start (c : UInt8) (l : List UInt8) : Cutting c l [] 0 0 := by
  unfold Cutting
  rw [if_pos (Nat.zero_le _)]
  exact ⟨Nat.le_refl _, by simp [glue_nil (parts_ne c l)]⟩
theorem Cutting.last {c : UInt8} {l : List UInt8} {done : List (List UInt8)} {f : Nat} (h : Cutting c l done f l.length) : Cutting c l (done ++ [(l.drop f).take (l.length - f)]) (l.length + 1) (l.length + 1) := by
  unfold Cutting at h ⊢
  rw [if_pos (Nat.le_refl _)] at h
  rw [if_neg (by omega), h.2]
  simp [parts, glue]
theorem Cutting.hit {c : UInt8} {l : List UInt8} {done : List (List UInt8)} {f k : Nat} (h : Cutting c l done f k) (hk : k < l.length) (hc : l[k] = c) : Cutting c l (done ++ [(l.drop f).take (k - f)]) (k + 1) (k + 1) := by
  unfold Cutting at h ⊢
  rw [if_pos (by omega)] at h
  rw [if_pos (by omega), h.2, List.drop_eq_getElem_cons hk]
  refine ⟨Nat.le_refl _, ?_⟩
  subst hc
  rw [parts_eq, Nat.sub_self, List.take_zero, glue_nil (parts_ne _ _)]
  simp [glue]
theorem Cutting.miss {c : UInt8} {l : List UInt8} {done : List (List UInt8)} {f k : Nat} (h : Cutting c l done f k) (hk : k < l.length) (hc : l[k] ≠ c) : Cutting c l done f (k + 1) := by
  unfold Cutting at h ⊢
  rw [if_pos (by omega)] at h
  rw [if_pos (by omega), h.2, List.drop_eq_getElem_cons hk]
  refine ⟨by omega, ?_⟩
  rw [parts_neq hc, glue_glue]
  congr 2
  have hf := h.1
  rw [show k + 1 - f = (k - f) + 1 from by omega, List.take_succ_eq_append_getElem (by rw [List.length_drop]; omega), List.getElem_drop]
  simp [show f + (k - f) = k from by omega]
theorem Cutting.fin {c : UInt8} {l : List UInt8} {done : List (List UInt8)} {f k : Nat} (h : Cutting c l done f k) (hk : l.length < k) : done = parts c l := by
  unfold Cutting at h
  rw [if_neg (by omega)] at h
  exact h.symm
theorem Cutting.le {c : UInt8} {l : List UInt8} {done : List (List UInt8)} {f k : Nat} (h : Cutting c l done f k) (hk : k ≤ l.length) : f ≤ k := by
  unfold Cutting at h
  rw [if_pos hk] at h
  exact h.1

theorem parts_none {c : UInt8} : ∀ {l : List UInt8}, c ∉ l → parts c l = [l]
  | [], _ => rfl
  | b :: r, h => by
    have hb : b ≠ c := fun e => h (by simp [e])
    have hr : c ∉ r := fun e => h (by simp [e])
    rw [parts_neq hb, parts_none hr]
    rfl
theorem parts_app {c : UInt8} : ∀ {a r : List UInt8}, c ∉ a → parts c (a ++ c :: r) = a :: parts c r
  | [], r, _ => by simp [parts_eq]
  | b :: a, r, h => by
    have hb : b ≠ c := fun e => h (by simp [e])
    have ha : c ∉ a := fun e => h (by simp [e])
    rw [List.cons_append, parts_neq hb, parts_app ha]
    rfl
/-- A text has a first c, or none. -/
theorem first_c (c : UInt8) : ∀ l : List UInt8, c ∉ l ∨ ∃ a r, l = a ++ c :: r ∧ c ∉ a
  | [] => Or.inl (by simp)
  | b :: l => by
    by_cases hb : b = c
    · exact Or.inr ⟨[], l, by simp [hb], by simp⟩
    · rcases first_c c l with h | ⟨a, r, rfl, h⟩
      · left; simp [Ne.symm hb, h]
      · right; exact ⟨b :: a, r, rfl, by simp [Ne.symm hb, h]⟩
theorem index_one_none {c : UInt8} : ∀ {l : List UInt8}, c ∉ l → index l [c] = -1
  | [], _ => rfl
  | b :: r, h => by
    have hb : b ≠ c := fun e => h (by simp [e])
    have hr : c ∉ r := fun e => h (by simp [e])
    unfold index
    rw [index_one_none hr]
    simp [List.isPrefixOf, Ne.symm hb]
theorem index_one_hit {c : UInt8} : ∀ {a r : List UInt8}, c ∉ a → index (a ++ c :: r) [c] = a.length
  | [], r, _ => by simp [index, List.isPrefixOf]
  | b :: a, r, h => by
    have hb : b ≠ c := fun e => h (by simp [e])
    have ha : c ∉ a := fun e => h (by simp [e])
    rw [List.cons_append]
    unfold index
    rw [index_one_hit ha]
    simp [List.isPrefixOf, Ne.symm hb]
theorem cut_none {c : UInt8} {l : List UInt8} (h : c ∉ l) : cut l [c] = (l, [], false) := by
  unfold cut; rw [index_one_none h]; rfl
theorem cut_hit {c : UInt8} {a r : List UInt8} (h : c ∉ a) : cut (a ++ c :: r) [c] = (a, r, true) := by
  unfold cut
  rw [index_one_hit h, if_pos (by omega)]
  simp
end Go.Proofs.YthjmgpjbpnaneaaDoor.Sg
