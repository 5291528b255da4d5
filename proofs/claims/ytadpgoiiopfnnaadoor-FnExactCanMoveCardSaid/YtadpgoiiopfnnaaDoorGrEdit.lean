/-
  A graph of the call's own when the items of one scope turn, and an item appended to a row of items. Plain facts.
-/
import Derived.Test.YtadpgoiiopfnnaaDoorWSpecRemove
import Derived.Test.YtadpgoiiopfnnaaDoorEditA
import Derived.Test.YtadpgoiiopfnnaaDoorWWithout
namespace Go.Proofs.YtadpgoiiopfnnaaDoor
open Go Go.RowKit
theorem scRow_put : ∀ {ss tt : List Sc} {hs : List Value} (i : Nat) (u : Value), hs.length = ss.length → tt.length = ss.length → (∀ k : Nat, (tt[k]?).map Sc.parent = (ss[k]?).map Sc.parent) → i < ss.length → scRow tt (hs.set i u) = (scRow ss hs).set (i * 2 + 1) u
  | [], _, _, i, _, _, _, _, h => absurd h (Nat.not_lt_zero i)
  | s :: r, [], _, _, _, _, h, _, _ => by simp at h
  | s :: r, t :: q, [], _, _, h, _, _, _ => by simp at h
  | s :: r, t :: q, v :: k, 0, u, h1, h2, h3, _ => by
    have h4 := h3 0
    simp at h4
    have h5 : ∀ {ss tt : List Sc} (hs : List Value), tt.length = ss.length → (∀ k : Nat, (tt[k]?).map Sc.parent = (ss[k]?).map Sc.parent) → scRow tt hs = scRow ss hs := by
      intro ss
      induction ss with
      | nil => intro tt hs h _; cases tt <;> simp at h; rfl
      | cons a l ih =>
        intro tt hs h hp
        cases tt with
        | nil => simp at h
        | cons b m =>
          cases hs with
          | nil => rfl
          | cons z o =>
            have e := hp 0
            simp at e
            show .int .i64 b.parent :: z :: scRow m o = .int .i64 a.parent :: z :: scRow l o
            rw [e, ih o (by simpa using h) (fun k => hp (k + 1))]
    show .int .i64 t.parent :: u :: scRow q k = .int .i64 s.parent :: u :: scRow r k
    rw [h4, h5 k (by simpa using h2) (fun j => h3 (j + 1))]
  | s :: r, t :: q, v :: k, i + 1, u, h1, h2, h3, hi => by
    have h4 := h3 0
    simp at h4
    have h5 := scRow_put (ss := r) (tt := q) (hs := k) i u (by simpa using h1) (by simpa using h2) (fun j => h3 (j + 1)) (by simpa using hi)
    rw [show (i + 1) * 2 + 1 = i * 2 + 1 + 1 + 1 by omega]
    show Value.int .i64 t.parent :: v :: scRow q (k.set i u) = _
    rw [h5, h4]
    rfl
/-- A graph of the call's own, when the items of one scope have turned in their row or lie in a new one. -/
theorem OwnGr.edit {w w1 : World} {B g cap i : Nat} {ss tt : List Sc} {hs : List Value} {s t : Sc} {u u' : Value} (h : OwnGr w B (.slice (some ⟨g, 0, none⟩) ss.length cap) ss hs) (hs' : ss[i]? = some s) (hu : hs[i]? = some u)
    (hg : w.grownBy w1 u.ownBlock) (hb : ∀ q, u'.ownBlock = some q → u.ownBlock = some q ∨ w.heap.size ≤ q) (hown : w1.ownsRow B 65 3 u' t.items.length (itemCells t.items))
    (hl : tt.length = ss.length) (hp : ∀ k : Nat, (tt[k]?).map Sc.parent = (ss[k]?).map Sc.parent) (ht : tt[i]? = some t) (hoth : ∀ k, k ≠ i → tt[k]? = ss[k]?) :
    OwnGr (w1.setCell ⟨g, i * 2 + 1, none⟩ u') B (.slice (some ⟨g, 0, none⟩) ss.length cap) tt (hs.set i u') := by
  have hil := (List.getElem?_eq_some_iff.1 hs').1
  have hrow1 := ownsRow_apart h.row hg (owns_types_apart h.row (h.items i s u hs' hu) (by decide))
  obtain ⟨vs, hR⟩ := ownsRow_row hrow1
  have hat : ∀ (k : Nat) (z : Value), (hs.set i u')[k]? = some z → (k = i ∧ z = u') ∨ (k ≠ i ∧ hs[k]? = some z) := fun k z hz => by
    by_cases hk : k = i
    · subst hk
      rw [List.getElem?_set_self (List.getElem?_eq_some_iff.1 hu).1] at hz
      exact .inl ⟨rfl, (Option.some.inj hz).symm⟩
    · rw [List.getElem?_set_ne (fun e => hk e.symm)] at hz
      exact .inr ⟨hk, hz⟩
  have old : ∀ (k : Nat) (z : Value), hs[k]? = some z → ∀ q, z.ownBlock = some q → q < w.heap.size := fun k z hz q hq => by
    obtain ⟨t, ht⟩ : ∃ t, ss[k]? = some t := ⟨_, List.getElem?_eq_getElem (by rw [← h.len]; exact (List.getElem?_eq_some_iff.1 hz).1)⟩
    exact ((h.items k t z ht hz).lt q hq).2
  have far : ∀ (k : Nat) (z : Value), k ≠ i → hs[k]? = some z → ∀ q, z.ownBlock = some q → u'.ownBlock = some q → False := fun k z hk hz q h1 h2 => by
    rcases hb q h2 with h3 | h3
    · rcases h.apart k i z u hk hz hu with h4 | h4
      · rw [h4] at h1; cases h1
      · exact h4 (h1.trans h3.symm)
    · have := old k z hz q h1; omega
  refine ⟨by rw [List.length_set, hl]; exact h.len, ?_, fun k t' z ht' hz => ?_, fun a b z z' hab hz hz' => ?_⟩
  · rw [hl, scRow_put i u' h.len hl hp hil]
    exact ownsRow_set hrow1 (by rw [scRow_length h.len]; omega) u'
  · rcases hat k z hz with ⟨rfl, rfl⟩ | ⟨hk, hz2⟩
    · rw [ht] at ht'
      obtain rfl := Option.some.inj ht'
      exact ownsRow_otherN hown hR (by decide) _ _
    · rw [hoth k hk] at ht'
      exact ownsRow_otherN (ownsRow_apart (h.items k t' z ht' hz2) hg (h.apart k i z u hk hz2 hu)) hR (by decide) _ _
  · rcases hat a z hz with ⟨rfl, rfl⟩ | ⟨ha, hz2⟩ <;> rcases hat b z' hz' with ⟨rfl, rfl⟩ | ⟨hb2, hz3⟩
    · exact absurd rfl hab
    · cases hq : z.ownBlock with
      | none => exact .inl rfl
      | some q => exact .inr fun e => far b z' hb2 hz3 q e.symm hq
    · cases hq : z.ownBlock with
      | none => exact .inl rfl
      | some q => exact .inr fun e => far a z ha hz2 q hq e.symm
    · exact h.apart a b z z' hab hz2 hz3
/-- An item appended to a row of items. -/
theorem append_item_at {W : World} {base k : Nat} {v : Value} {xs : List Value} (hrow : W.ownsRow base 65 3 v k xs) (x : It) (hk : k < 1000000) (hbase : base ≤ W.heap.size) (ty : TypeId) :
    ∃ v' w', (Builtin.append_ #[88, 88] ty #[v, .slice (some ⟨W.heap.size, 0, none⟩) 1 1]).run Tryd.prog (W.alloc (.cells #[.int .i64 x.kind, .string x.name, .int .i64 x.scope] 65)) = .ok v' w' ∧ w'.ownsRow base 65 3 v' (k + 1) (xs ++ itemCells [x]) ∧
      (W.alloc (.cells #[.int .i64 x.kind, .string x.name, .int .i64 x.scope] 65)).grownBy w' v.ownBlock ∧ (v'.ownBlock = v.ownBlock ∨ v'.ownBlock = some (W.heap.size + 1)) := by
  obtain ⟨i0, hi, hz0, hz1, hz2⟩ := info_parts infoItem
  obtain ⟨v', w', hrun, h2, h3, _, h5⟩ := run_append_own_at (P := Tryd.prog) (W.alloc (.cells #[.int .i64 x.kind, .string x.name, .int .i64 x.scope] 65)) base 88 ty 65 i0 _ 3 32 Tryd.underlying88 hi hz0 hz1 hz2 rfl (by decide) v k xs (hrow.alloc _) ⟨W.heap.size, 0, none⟩ 1 1 (itemCells [x]) rfl (cells_new3 W _ _ _ _)
    (itemCells_one [x]) (by unfold maxLen; omega) (by omega) (by show base ≤ (W.alloc _).heap.size; simp; omega)
  exact ⟨v', w', hrun, h2, h3, by simpa using h5⟩
end Go.Proofs.YtadpgoiiopfnnaaDoor
