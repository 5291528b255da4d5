/-
  When a reference is removed, nothing changes: what all other items mean stands where it stands then. Plain facts.
-/
import Derived.Test.YtimcobenmgbciaaDoorJEZ
import Derived.Test.YtimcobenmgbciaaDoorJCZ
import Derived.Test.YtimcobenmgbciaaDoorMeanDZ
namespace Go.Proofs.YtimcobenmgbciaaDoor
open Go Go.RowKit
theorem aft_low {a b : Int} {p : Int × Int} (h : ¬ (p.1 = a ∧ b < p.2)) : aftI a b p = p := if_neg h
theorem map_aft_id {a b : Int} {l : List (Int × Int)} (h : ∀ p ∈ l, ¬ (p.1 = a ∧ b < p.2)) : l.map (aftI a b) = l := by
  conv => rhs; rw [← List.map_id l]
  exact List.map_congr_left fun p hp => aft_low (h p hp)
theorem ownUp_pos {xs : List It} {s : Nat} {nm : ByteArray} : ∀ (k : Nat), ∀ p ∈ ownUp xs s nm k, p.1 = (s : Int) ∧ p.2 < (k : Int)
  | 0, p, hp => by simp [ownUp] at hp
  | k + 1, p, hp => by
    unfold ownUp at hp
    rcases List.mem_append.1 hp with h | h
    · have := ownUp_pos k p h
      exact ⟨this.1, by omega⟩
    · split at h
      · split at h
        · rw [List.mem_singleton.1 h]; exact ⟨rfl, by dsimp only; omega⟩
        · simp at h
      · simp at h
theorem ownUp_low {xs : List It} {s b : Nat} {nm : ByteArray} : ∀ k : Nat, k ≤ b → ownUp (xs.eraseIdx b) s nm k = ownUp xs s nm k
  | 0, _ => rfl
  | k + 1, h => by
    have ih := ownUp_low (xs := xs) (s := s) (b := b) (nm := nm) k (by omega)
    show ownUp (xs.eraseIdx b) s nm k ++ _ = ownUp xs s nm k ++ _
    rw [ih, List.getElem?_eraseIdx, if_pos (by omega)]
theorem ownUp_high {xs : List It} {s b : Nat} {nm : ByteArray} {x0 : It} (h0 : xs[b]? = some x0) (hn : isOwn nm x0 = false) : ∀ d : Nat, ownUp (xs.eraseIdx b) s nm (b + d) = (ownUp xs s nm (b + 1 + d)).map (aftI (s : Int) (b : Int))
  | 0 => by
    show ownUp (xs.eraseIdx b) s nm b = (ownUp xs s nm b ++ _).map _
    rw [h0]
    dsimp only
    rw [if_neg (by rw [hn]; decide), List.append_nil, ownUp_low b (Nat.le_refl _), map_aft_id fun p hp => by have := ownUp_pos b p hp; omega]
  | d + 1 => by
    have ih := ownUp_high h0 hn (s := s) d
    show ownUp (xs.eraseIdx b) s nm (b + d) ++ (match (xs.eraseIdx b)[b + d]? with
      | some x => if isOwn nm x = true then [((s : Int), ((b + d : Nat) : Int))] else []
      | none => []) = (ownUp xs s nm (b + 1 + d) ++ (match xs[b + 1 + d]? with
      | some x => if isOwn nm x = true then [((s : Int), ((b + 1 + d : Nat) : Int))] else []
      | none => [])).map _
    rw [List.map_append, ih, List.getElem?_eraseIdx, if_neg (by omega), show b + d + 1 = b + 1 + d by omega]
    congr 1
    cases hx : xs[b + 1 + d]? with
    | none => rfl
    | some x =>
      dsimp only
      by_cases ho : isOwn nm x = true
      · rw [if_pos ho, if_pos ho]
        show _ = [aftI (s : Int) (b : Int) ((s : Int), ((b + 1 + d : Nat) : Int))]
        rw [aftI_nat]
        unfold aftN
        rw [if_pos ⟨rfl, by omega⟩, show b + 1 + d - 1 = b + d by omega]
      · rw [if_neg ho, if_neg ho]; rfl
/-- A reference that is removed. -/
structure RefAt (ss : List Sc) (a b : Nat) (c0 : Sc) (x0 : It) : Prop where
  valid : Valid ss
  scope : ss[a]? = some c0
  item : c0.items[b]? = some x0
  kind : x0.kind = 2
section
variable {ss : List Sc} {a b : Nat} {c0 : Sc} {x0 : It}
theorem RefAt.items (_ : RefAt ss a b c0 x0) (s : Nat) : itemsP (rmvP ss a b) s = if s = a then (itemsP ss s).eraseIdx b else itemsP ss s := by
  unfold itemsP
  rw [rmvP_get]
  cases hs : ss[s]? with
  | none => by_cases e : s = a <;> simp [e]
  | some c => by_cases e : s = a <;> simp [e, rmvSc]
theorem RefAt.own (h : RefAt ss a b c0 x0) (s : Nat) (nm : ByteArray) : ownP (rmvP ss a b) s nm = (ownP ss s nm).map (aftI (a : Int) (b : Int)) := by
  unfold ownP
  rw [h.items]
  by_cases e : s = a
  · subst e
    rw [if_pos rfl, itemsP_of h.scope]
    have hb := (List.getElem?_eq_some_iff.1 h.item).1
    have hn : isOwn nm x0 = false := by unfold isOwn; rw [h.kind]; rfl
    have h1 := ownUp_high h.item hn (s := s) (c0.items.length - (b + 1))
    rw [show b + 1 + (c0.items.length - (b + 1)) = c0.items.length by omega] at h1
    rw [List.length_eraseIdx, if_pos hb, show c0.items.length - 1 = b + (c0.items.length - (b + 1)) by omega]
    exact h1
  · rw [if_neg e]
    exact (map_aft_id fun p hp => by have := ownUp_pos _ p hp; omega).symm
theorem RefAt.from (h : RefAt ss a b c0 x0) (l : List Nat) (nm : ByteArray) : fromP (rmvP ss a b) l nm = (fromP ss l nm).map (aftI (a : Int) (b : Int)) := by
  unfold fromP
  rw [List.map_flatMap]
  congr 1
  funext k
  exact h.own k nm
theorem isEmpty_mapR {α β : Type} (f : α → β) (l : List α) : (l.map f).isEmpty = l.isEmpty := by cases l <;> rfl
theorem RefAt.look (h : RefAt ss a b c0 x0) (imps : Nat → List Nat) (nm : ByteArray) : ∀ l : List Nat, (lookF (rmvP ss a b) imps nm l).places = (lookF ss imps nm l).places.map (aftI (a : Int) (b : Int))
  | [] => rfl
  | m :: r => by
    have ih := h.look imps nm r
    unfold lookF
    rw [h.own, h.from, isEmpty_mapR, isEmpty_mapR]
    split
    · split
      · exact ih
      · rfl
    · rfl
theorem RefAt.par (_ : RefAt ss a b c0 x0) (s : Nat) : parP (rmvP ss a b) s = parP ss s := by
  have h1 := rmv_parent ss a b s
  unfold parP
  cases h2 : (rmvP ss a b)[s]? with
  | none =>
    rw [h2] at h1
    cases h3 : ss[s]? with
    | none => rfl
    | some c => rw [h3] at h1; cases h1
  | some d =>
    rw [h2] at h1
    cases h3 : ss[s]? with
    | none => rw [h3] at h1; cases h1
    | some c =>
      rw [h3] at h1
      have h4 : d.parent = c.parent := Option.some.inj h1
      dsimp only
      rw [h4]
theorem RefAt.chainN (h : RefAt ss a b c0 x0) : ∀ (n s : Nat), chainN (rmvP ss a b) n s = Go.Proofs.YtimcobenmgbciaaDoor.chainN ss n s
  | 0, _ => rfl
  | n + 1, s => by
    unfold Go.Proofs.YtimcobenmgbciaaDoor.chainN
    rw [h.par]
    cases parP ss s with
    | none => rfl
    | some p => dsimp only; rw [h.chainN n p]
theorem RefAt.chain (h : RefAt ss a b c0 x0) (s : Nat) : chainP (rmvP ss a b) s = chainP ss s := h.chainN _ _
theorem RefAt.meant (h : RefAt ss a b c0 x0) (imps : Nat → List Nat) (s : Nat) (nm : ByteArray) : meantF (rmvP ss a b) imps s nm = (meantF ss imps s nm).map (aftI (a : Int) (b : Int)) := by
  unfold meantF
  rw [h.own, isEmpty_mapR, h.par]
  split
  · cases parP ss s with
    | none => rfl
    | some p => dsimp only; rw [h.chain]; exact h.look imps nm _
  · rfl
theorem meantF_decl {ss : List Sc} {imps : Nat → List Nat} {s : Nat} {nm : ByteArray} {p : Int × Int} (hp : p ∈ meantF ss imps s nm) : ∃ x, itemAtP ss p.1 p.2 = some x ∧ x.kind = 1 ∧ x.name = nm := by
  unfold meantF at hp
  split at hp
  · split at hp
    · simp at hp
    · exact look_declM p hp
  · exact own_declM hp
theorem RefAt.placeNe (h : RefAt ss a b c0 x0) {p : Int × Int} {y : It} (hy : itemAtP ss p.1 p.2 = some y) (hk : y.kind = 1) : p ≠ ((a : Int), (b : Int)) := by
  rintro rfl
  have h1 := placed_item (placed_of h.scope h.item)
  dsimp only at h1 hy
  rw [h1] at hy
  obtain rfl := Option.some.inj hy
  rw [h.kind] at hk
  omega
theorem RefAt.item_aft (h : RefAt ss a b c0 x0) {p : Int × Int} {y : It} (hy : itemAtP ss p.1 p.2 = some y) (hk : y.kind = 1) : itemAtP (rmvP ss a b) (aftI (a : Int) (b : Int) p).1 (aftI (a : Int) (b : Int) p).2 = some y := by
  have hne := h.placeNe hy hk
  obtain ⟨p1, p2⟩ := p
  obtain ⟨i, j, rfl, rfl, hq⟩ := item_placed hy
  have h1 := placed_item (placed_rmv (a := a) (b := b) hq (fun e => hne (by rw [e.1, e.2])))
  rw [aftI_nat]
  exact h1
theorem RefAt.target (h : RefAt ss a b c0 x0) (imps : Nat → List Nat) (s : Nat) (nm : ByteArray) : targetF (rmvP ss a b) imps s nm = targetF ss imps s nm := by
  unfold targetF
  rw [h.meant]
  cases hm : meantF ss imps s nm with
  | nil => rfl
  | cons p r =>
    cases r with
    | cons p2 r2 => rfl
    | nil =>
      obtain ⟨y, hy, hk, _⟩ := meantF_decl (ss := ss) (imps := imps) (s := s) (nm := nm) (p := p) (by rw [hm]; exact List.mem_singleton.2 rfl)
      show scopeAt (rmvP ss a b) (aftI (a : Int) (b : Int) p) = scopeAt ss p
      unfold scopeAt
      rw [hy, h.item_aft hy hk]
theorem foldl_erase {α β : Type} (g : β → α → β) {xs : List α} {b : Nat} {x : α} (hx : xs[b]? = some x) (hg : ∀ z, g z x = z) (z : β) : (xs.eraseIdx b).foldl g z = xs.foldl g z := by
  have hb := (List.getElem?_eq_some_iff.1 hx).1
  have e : xs = xs.take b ++ x :: xs.drop (b + 1) := by
    have h1 := List.drop_eq_getElem_cons hb
    rw [(List.getElem?_eq_some_iff.1 hx).2] at h1
    rw [← h1, List.take_append_drop]
  rw [List.eraseIdx_eq_take_drop_succ]
  conv => rhs; rw [e]
  rw [List.foldl_append, List.foldl_append, List.foldl_cons, hg]
theorem RefAt.impF (h : RefAt ss a b c0 x0) (imps : Nat → List Nat) (s : Nat) : impF (rmvP ss a b) imps s = Go.Proofs.YtimcobenmgbciaaDoor.impF ss imps s := by
  have hstep : impStep (rmvP ss a b) imps s = impStep ss imps s := by
    funext out x
    unfold impStep
    rw [h.target]
  unfold Go.Proofs.YtimcobenmgbciaaDoor.impF impUp
  rw [List.take_length, List.take_length, hstep, h.items]
  by_cases e : s = a
  · subst e
    rw [if_pos rfl, itemsP_of h.scope]
    exact foldl_erase _ h.item (fun z => by unfold impStep; rw [if_neg (by rw [h.kind]; omega)]) _
  · rw [if_neg e]
theorem RefAt.imp (h : RefAt ss a b c0 x0) (s : Nat) : impP (rmvP ss a b) s = impP ss s := by
  induction s using Nat.strongRecOn with
  | _ s ih =>
    rw [impP_eq (h.valid.rmv a b).climbs, impF_congr (h.valid.rmv a b).climbs (g := impP ss) (fun m hm => ih m hm), h.impF, ← impP_eq h.valid.climbs]
theorem RefAt.mean (h : RefAt ss a b c0 x0) (i j : Nat) (x : It) : meanIt (rmvP ss a b) (i, aftN a b i j, x) = (meanIt ss (i, j, x)).map (aftI (a : Int) (b : Int)) := by
  have hi : impP (rmvP ss a b) = impP ss := funext h.imp
  unfold meanIt lookP meantP
  dsimp only
  rw [hi]
  split
  · rw [h.chain]; exact h.look _ _ _
  · split
    · exact h.meant _ _ _
    · show _ = [aftI (a : Int) (b : Int) ((i : Int), (j : Int))]
      rw [aftI_nat]
/-- Nothing changes. -/
theorem RefAt.same (h : RefAt ss a b c0 x0) : chgP ss a b = [] := by
  unfold chgP filtL
  rw [List.map_eq_nil_iff, List.filter_eq_nil_iff]
  rintro ⟨i, j, x⟩ hq
  unfold chgB
  by_cases he : i = a ∧ j = b
  · rw [decide_eq_true (show (i, j, x).1 = a ∧ (i, j, x).2.1 = b from he)]; simp
  · have hs : sameB ss a b (i, j, x) = true := by
      unfold sameB
      dsimp only
      rw [h.mean i j x, decide_eq_true rfl, Bool.and_true]
      have hn : ((a : Int), (b : Int)) ∉ meanIt ss (i, j, x) := by
        intro hm
        rcases kind_cases h.valid hq with hk | hk
        · have e1 : meanIt ss (i, j, x) = [((i : Int), (j : Int))] := by
            unfold meanIt
            rw [if_neg (by dsimp only at hk ⊢; omega), if_neg (by dsimp only at hk ⊢; omega)]
          rw [e1] at hm
          have h2 := Prod.mk.inj (List.mem_singleton.1 hm)
          exact he ⟨by omega, by omega⟩
        · obtain ⟨y, hy, hyk, _⟩ := mean_declM hk hm
          exact h.placeNe hy hyk rfl
      rw [decide_eq_false hn]; rfl
    rw [hs]
    simp
end
end Go.Proofs.YtimcobenmgbciaaDoor
