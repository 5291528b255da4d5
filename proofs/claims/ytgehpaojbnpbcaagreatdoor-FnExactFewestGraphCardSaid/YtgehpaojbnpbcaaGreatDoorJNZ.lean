/-
  With which names all items mean the same: exactly if no declaration that is met on the way to what an item means has its letter. Plain facts. Namings in the order of the alphabet in which each letter stands only behind those before it: all of them, and which one comes behind which. Plain facts. Two declarations that have one letter: which namings are good, by which two can share one. Plain facts.
-/
import Derived.Test.YtgehpaojbnpbcaaGreatDoorJFZ
import Derived.Test.YtgehpaojbnpbcaaGreatDoorBaseZ
namespace Go.Proofs.YtgehpaojbnpbcaaGreatDoor
open Go Go.RowKit
section lists
variable {α : Type}
/-- The first of some lists in which something is found. -/
def lookL (P : α → Bool) : List (List α) → List α
  | [] => []
  | l :: r => if l.filter P = [] then lookL P r else l.filter P
/-- All that is met until something is found. -/
def metL (P : α → Bool) : List (List α) → List α
  | [] => []
  | l :: r => l ++ (if l.filter P = [] then metL P r else [])
theorem lookL_mem {P : α → Bool} : ∀ {L : List (List α)} {p : α}, p ∈ lookL P L → P p = true
  | [], p, h => by cases h
  | l :: r, p, h => by
    unfold lookL at h
    split at h
    · exact lookL_mem h
    · exact (List.mem_filter.1 h).2
theorem filt_one [DecidableEq α] {P Q : α → Bool} {l : List α} {p : α} (h : l.filter P = [p]) (hq : Q p = true) : l.filter Q = [p] ↔ ∀ q ∈ l, Q q = true → q = p := by
  constructor
  · intro hQ q hl hQq
    have : q ∈ l.filter Q := List.mem_filter.2 ⟨hl, hQq⟩
    rw [hQ] at this
    exact List.mem_singleton.1 this
  · intro hall
    have hp : P p = true := (List.mem_filter.1 (show p ∈ l.filter P by rw [h]; exact List.mem_singleton.2 rfl)).2
    have e1 : l.filter Q = l.filter fun q => decide (q = p) := List.filter_congr fun q hl => by
      rw [Bool.eq_iff_iff, decide_eq_true_iff]
      exact ⟨hall q hl, fun e => by rw [e]; exact hq⟩
    have e2 : (l.filter fun q => decide (q = p)) = (l.filter P).filter fun q => decide (q = p) := by
      rw [List.filter_filter]
      refine List.filter_congr fun q _ => ?_
      rw [Bool.eq_iff_iff, Bool.and_eq_true, decide_eq_true_iff]
      exact ⟨fun e => ⟨e, by rw [e]; exact hp⟩, fun e => e.1⟩
    rw [e1, e2, h]
    simp
theorem lookL_one [DecidableEq α] {P Q : α → Bool} {p : α} (hq : Q p = true) : ∀ {L : List (List α)}, lookL P L = [p] → (lookL Q L = [p] ↔ ∀ q ∈ metL P L, Q q = true → q = p)
  | [], h => by cases h
  | l :: r, h => by
    have hP : P p = true := lookL_mem (L := l :: r) (by rw [h]; exact List.mem_singleton.2 rfl)
    by_cases h1 : l.filter P = []
    · have hr : lookL P r = [p] := by unfold lookL at h; rwa [if_pos h1] at h
      have hno : p ∉ l := fun hp => by
        have : p ∈ l.filter P := List.mem_filter.2 ⟨hp, hP⟩
        rw [h1] at this; cases this
      have ih := lookL_one hq hr
      have em : metL P (l :: r) = l ++ metL P r := by show l ++ _ = _; rw [if_pos h1]
      rw [em]
      by_cases g1 : l.filter Q = []
      · have el : lookL Q (l :: r) = lookL Q r := by show (if _ then _ else _) = _; rw [if_pos g1]
        rw [el, ih]
        constructor
        · intro h2 q hm hQ
          rcases List.mem_append.1 hm with h3 | h3
          · exact absurd (List.mem_filter.2 ⟨h3, hQ⟩) (by rw [g1]; simp)
          · exact h2 q h3 hQ
        · exact fun h2 q hm hQ => h2 q (List.mem_append.2 (.inr hm)) hQ
      · have el : lookL Q (l :: r) = l.filter Q := by show (if _ then _ else _) = _; rw [if_neg g1]
        rw [el]
        constructor
        · intro h2
          have : p ∈ l.filter Q := by rw [h2]; exact List.mem_singleton.2 rfl
          exact absurd (List.mem_filter.1 this).1 hno
        · intro h2
          exfalso
          obtain ⟨q, hq1⟩ := List.exists_mem_of_ne_nil _ g1
          obtain ⟨a, b⟩ := List.mem_filter.1 hq1
          have := h2 q (List.mem_append.2 (.inl a)) b
          exact hno (this ▸ a)
    · have hl : l.filter P = [p] := by unfold lookL at h; rwa [if_neg h1] at h
      have em : metL P (l :: r) = l := by show l ++ _ = _; rw [if_neg h1, List.append_nil]
      have hp : p ∈ l := (List.mem_filter.1 (show p ∈ l.filter P by rw [hl]; exact List.mem_singleton.2 rfl)).1
      have g1 : l.filter Q ≠ [] := fun e => by
        have : p ∈ l.filter Q := List.mem_filter.2 ⟨hp, hq⟩
        rw [e] at this; cases this
      have el : lookL Q (l :: r) = l.filter Q := by show (if _ then _ else _) = _; rw [if_neg g1]
      rw [em, el]
      exact filt_one hl hq
theorem lookL_none {Q : α → Bool} : ∀ {L : List (List α)}, (∀ l ∈ L, ∀ q ∈ l, Q q = false) → lookL Q L = []
  | [], _ => rfl
  | l :: r, h => by
    have e : l.filter Q = [] := List.filter_eq_nil_iff.2 fun q hq => by rw [h l List.mem_cons_self q hq]; simp
    show (if _ then _ else _) = _
    rw [if_pos e]
    exact lookL_none fun l' hl => h l' (List.mem_cons_of_mem _ hl)
theorem metL_mem {P : α → Bool} : ∀ {L : List (List α)} {q : α}, q ∈ metL P L → ∃ l ∈ L, q ∈ l
  | [], q, h => by cases h
  | l :: r, q, h => by
    have h' : q ∈ l ++ _ := h
    rcases List.mem_append.1 h' with h1 | h1
    · exact ⟨l, List.mem_cons_self, h1⟩
    · split at h1
      · obtain ⟨l', a, b⟩ := metL_mem h1
        exact ⟨l', List.mem_cons_of_mem _ a, b⟩
      · cases h1
end lists
/-- The declarations among the first k items of a scope. -/
def dclUp (xs : List It) (s : Nat) : Nat → List (Int × Int)
  | 0 => []
  | k + 1 => dclUp xs s k ++ match xs[k]? with
    | some x => if x.kind == 1 then [((s : Int), (k : Int))] else []
    | none => []
def dclS (ss : List Sc) (s : Nat) : List (Int × Int) := dclUp (itemsP ss s) s (itemsP ss s).length
/-- The name at a place. -/
def nmP (ss : List Sc) (p : Int × Int) : ByteArray := ((itemAtP ss p.1 p.2).getD zeroIt).name
def hasNm (ss : List Sc) (nm : ByteArray) (p : Int × Int) : Bool := decide (nmP ss p = nm)
theorem itemsP_at (ss : List Sc) (s k : Nat) : itemAtP ss (s : Int) (k : Int) = (itemsP ss s)[k]? := by
  unfold itemsP itemAtP
  rw [if_pos ⟨by omega, by omega⟩]
  cases h : ss[s]? with
  | none => simp [h]
  | some c => simp [h]
theorem own_filt (ss : List Sc) (s : Nat) (nm : ByteArray) : ownP ss s nm = (dclS ss s).filter (hasNm ss nm) := by
  have e : ∀ k, ownUp (itemsP ss s) s nm k = (dclUp (itemsP ss s) s k).filter (hasNm ss nm) := by
    intro k
    induction k with
    | zero => rfl
    | succ k ih =>
      show ownUp (itemsP ss s) s nm k ++ _ = (dclUp (itemsP ss s) s k ++ _).filter _
      rw [List.filter_append, ← ih]
      congr 1
      cases hx : (itemsP ss s)[k]? with
      | none => rfl
      | some x =>
        have hn : nmP ss ((s : Int), (k : Int)) = x.name := by
          unfold nmP
          rw [itemsP_at, hx]
          rfl
        dsimp only
        unfold isOwn
        cases hk : (x.kind == 1) with
        | false => simp
        | true =>
          have e1 : hasNm ss nm ((s : Int), (k : Int)) = (x.name.toList == nm.toList) := by
            unfold hasNm
            rw [hn, Bool.eq_iff_iff, decide_eq_true_iff, bytes_self]
          simp only [Bool.true_and, if_true]
          rw [List.filter_cons, e1]
          cases x.name.toList == nm.toList <;> rfl
  exact e _
theorem from_filt (ss : List Sc) (l : List Nat) (nm : ByteArray) : fromP ss l nm = (l.flatMap (dclS ss)).filter (hasNm ss nm) := by
  unfold fromP
  induction l with
  | nil => rfl
  | cons k r ih => rw [List.flatMap_cons, List.flatMap_cons, List.filter_append, ih, own_filt]
/-- The lists of declarations in which a reference and an import look, one behind the other. -/
def lvR (ss : List Sc) (imps : Nat → List Nat) : List Nat → List (List (Int × Int))
  | [] => []
  | m :: r => dclS ss m :: (imps m).flatMap (dclS ss) :: lvR ss imps r
def lvI (ss : List Sc) (imps : Nat → List Nat) (s : Nat) : List (List (Int × Int)) := dclS ss s :: (match parP ss s with
  | none => []
  | some p => lvR ss imps (chainP ss p))
theorem isEmpty_nil {α : Type} (l : List α) : (l.isEmpty = true) = (l = []) := by cases l <;> simp
theorem look_lv (ss : List Sc) (imps : Nat → List Nat) (nm : ByteArray) : ∀ c : List Nat, (lookF ss imps nm c).places = lookL (hasNm ss nm) (lvR ss imps c)
  | [] => rfl
  | m :: r => by
    have ih := look_lv ss imps nm r
    unfold lookF lvR lookL lookL
    rw [← own_filt, ← from_filt, ← ih]
    simp only [isEmpty_nil]
    split
    · split <;> rfl
    · rfl
theorem meant_lv (ss : List Sc) (imps : Nat → List Nat) (s : Nat) (nm : ByteArray) : meantF ss imps s nm = lookL (hasNm ss nm) (lvI ss imps s) := by
  unfold meantF lvI lookL
  rw [← own_filt]
  simp only [isEmpty_nil]
  split
  · cases parP ss s with
    | none => rfl
    | some p => exact look_lv ss imps nm _
  · rfl
/-- What an item means by what scopes import, and where it looks. -/
def meanF (ss : List Sc) (imps : Nat → List Nat) (q : Nat × Nat × It) : List (Int × Int) :=
  if q.2.2.kind = 2 then (lookF ss imps q.2.2.name (chainP ss q.1)).places else if q.2.2.kind = 3 then meantF ss imps q.1 q.2.2.name else [((q.1 : Int), (q.2.1 : Int))]
def lvOf (ss : List Sc) (imps : Nat → List Nat) (q : Nat × Nat × It) : List (List (Int × Int)) := if q.2.2.kind = 2 then lvR ss imps (chainP ss q.1) else if q.2.2.kind = 3 then lvI ss imps q.1 else []
theorem mean_F (ss : List Sc) (q : Nat × Nat × It) : meanIt ss q = meanF ss (impP ss) q := rfl
theorem mean_lv (ss : List Sc) (imps : Nat → List Nat) {q : Nat × Nat × It} (hk : q.2.2.kind = 2 ∨ q.2.2.kind = 3) : meanF ss imps q = lookL (hasNm ss q.2.2.name) (lvOf ss imps q) := by
  unfold meanF lvOf
  by_cases h : q.2.2.kind = 2
  · rw [if_pos h, if_pos h]; exact look_lv _ _ _ _
  · have h3 : q.2.2.kind = 3 := by omega
    rw [if_neg h, if_neg h, if_pos h3, if_pos h3]; exact meant_lv _ _ _ _
section ren
variable (ss : List Sc) (f : NameF)
theorem itemsP_ren (s : Nat) : itemsP (renP ss f) s = (itemsP ss s).mapIdx (renIt f s) := by
  unfold itemsP
  rw [renP_get]
  cases ss[s]? <;> rfl
theorem dclS_ren (s : Nat) : dclS (renP ss f) s = dclS ss s := by
  unfold dclS
  rw [itemsP_ren, List.length_mapIdx]
  have e : ∀ k, dclUp ((itemsP ss s).mapIdx (renIt f s)) s k = dclUp (itemsP ss s) s k := by
    intro k
    induction k with
    | zero => rfl
    | succ k ih =>
      show dclUp ((itemsP ss s).mapIdx (renIt f s)) s k ++ _ = dclUp (itemsP ss s) s k ++ _
      rw [ih, List.getElem?_mapIdx]
      cases (itemsP ss s)[k]? <;> rfl
  exact e _
theorem par_ren (s : Nat) : parP (renP ss f) s = parP ss s := by
  unfold parP
  rw [renP_get]
  cases ss[s]? <;> rfl
theorem chainN_ren : ∀ n s : Nat, chainN (renP ss f) n s = chainN ss n s
  | 0, _ => rfl
  | n + 1, s => by
    unfold chainN
    rw [par_ren]
    cases parP ss s with
    | none => rfl
    | some p => dsimp only; rw [chainN_ren n p]
theorem chain_ren (s : Nat) : chainP (renP ss f) s = chainP ss s := chainN_ren ss f _ _
theorem lvR_ren (imps : Nat → List Nat) : ∀ c : List Nat, lvR (renP ss f) imps c = lvR ss imps c
  | [] => rfl
  | m :: r => by
    unfold lvR
    rw [dclS_ren, lvR_ren imps r, show dclS (renP ss f) = dclS ss from funext (dclS_ren ss f)]
theorem lvOf_ren (imps : Nat → List Nat) (i j : Nat) (x : It) : lvOf (renP ss f) imps (i, j, renIt f i j x) = lvOf ss imps (i, j, x) := by
  unfold lvOf lvI
  dsimp only
  rw [chain_ren, lvR_ren, dclS_ren, par_ren]
  congr 1
  congr 1
  cases parP ss i with
  | none => rfl
  | some p => dsimp only; rw [chain_ren, lvR_ren]
theorem scopeAt_ren (p : Int × Int) : scopeAt (renP ss f) p = scopeAt ss p := by
  unfold scopeAt
  by_cases h : 0 ≤ p.1 ∧ 0 ≤ p.2
  · obtain ⟨a, ha⟩ := Int.eq_ofNat_of_zero_le h.1
    obtain ⟨b, hb⟩ := Int.eq_ofNat_of_zero_le h.2
    rw [ha, hb, itemsP_at, itemsP_at, itemsP_ren, List.getElem?_mapIdx]
    cases (itemsP ss a)[b]? <;> rfl
  · unfold itemAtP
    rw [if_neg h, if_neg h]
/-- Scopes import the same where all imports mean the same. -/
theorem impF_ren {iG iS : Nat → List Nat} {s : Nat} (h : ∀ j x, (itemsP ss s)[j]? = some x → x.kind = 3 → meantF (renP ss f) iG s (f s j x.name) = meantF ss iS s x.name) : impF (renP ss f) iG s = impF ss iS s := by
  unfold impF
  rw [itemsP_ren, List.length_mapIdx]
  have e : ∀ k, impUp (renP ss f) iG s ((itemsP ss s).mapIdx (renIt f s)) k = impUp ss iS s (itemsP ss s) k := by
    intro k
    induction k with
    | zero => rfl
    | succ k ih =>
      cases hx : (itemsP ss s)[k]? with
      | none =>
        unfold impUp at ih ⊢
        rw [List.take_add_one, List.take_add_one, hx, List.getElem?_mapIdx, hx]
        simpa using ih
      | some x =>
        rw [impUp_snoc hx, impUp_snoc (x := renIt f s k x) (by rw [List.getElem?_mapIdx, hx]; rfl), ih]
        unfold impStep
        by_cases hk : x.kind = 3
        · have ht : targetF (renP ss f) iG s (renIt f s k x).name = targetF ss iS s x.name := by
            unfold targetF
            rw [show (renIt f s k x).name = f s k x.name from rfl, h k x hx hk]
            split
            · exact scopeAt_ren ss f _
            · rfl
          rw [ht]
          rfl
        · rw [if_neg hk, if_neg (show ¬ (renIt f s k x).kind = 3 from hk)]
  exact e _
end ren
theorem dclUp_mem {xs : List It} {s : Nat} {p : Int × Int} : ∀ {k : Nat}, p ∈ dclUp xs s k → ∃ (j : Nat) (x : It), xs[j]? = some x ∧ x.kind = 1 ∧ p = ((s : Int), (j : Int))
  | 0, h => by cases h
  | k + 1, h => by
    have h' : p ∈ dclUp xs s k ++ _ := h
    rcases List.mem_append.1 h' with h1 | h1
    · exact dclUp_mem h1
    · split at h1
      · rename_i x hx
        split at h1
        · rename_i hk
          exact ⟨k, x, hx, by simpa using hk, List.mem_singleton.1 h1⟩
        · cases h1
      · cases h1
theorem dclS_mem {ss : List Sc} {s : Nat} {p : Int × Int} (h : p ∈ dclS ss s) : ∃ (j : Nat) (x : It), (s, j, x) ∈ placed 0 ss ∧ x.kind = 1 ∧ p = ((s : Int), (j : Int)) := by
  obtain ⟨j, x, hx, hk, rfl⟩ := dclUp_mem h
  rw [← itemsP_at] at hx
  obtain ⟨a, b, h1, h2, hq⟩ := item_placed hx
  obtain rfl : s = a := by omega
  obtain rfl : j = b := by omega
  exact ⟨j, x, hq, hk, rfl⟩
theorem lvR_mem {ss : List Sc} {imps : Nat → List Nat} : ∀ {c : List Nat} {l : List (Int × Int)}, l ∈ lvR ss imps c → ∀ p ∈ l, ∃ s, p ∈ dclS ss s
  | [], l, h => by cases h
  | m :: r, l, h => by
    intro p hp
    unfold lvR at h
    rcases List.mem_cons.1 h with rfl | h
    · exact ⟨m, hp⟩
    · rcases List.mem_cons.1 h with rfl | h
      · obtain ⟨k, _, hk⟩ := List.mem_flatMap.1 hp
        exact ⟨k, hk⟩
      · exact lvR_mem h p hp
theorem lvOf_mem {ss : List Sc} {imps : Nat → List Nat} {q : Nat × Nat × It} {l : List (Int × Int)} (h : l ∈ lvOf ss imps q) : ∀ p ∈ l, ∃ s, p ∈ dclS ss s := by
  unfold lvOf at h
  split at h
  · exact lvR_mem h
  · split at h
    · unfold lvI at h
      rcases List.mem_cons.1 h with rfl | h
      · exact fun p hp => ⟨_, hp⟩
      · split at h
        · cases h
        · exact lvR_mem h
    · cases h
/-- The letter of a declaration. -/
def ltP (ss : List Sc) (names : ByteArray) (p : Int × Int) : ByteArray := nmK names (posOf (dclP ss) p)
theorem nm_named {ss : List Sc} {names : ByteArray} {s : Nat} {p : Int × Int} (h : p ∈ dclS ss s) : nmP (nmgG ss names) p = ltP ss names p := by
  obtain ⟨j, x, hq, hk, rfl⟩ := dclS_mem h
  have h1 := placed_item (placed_ren (f := nmgF ss names) hq)
  unfold nmP
  dsimp only at h1 ⊢
  rw [show nmgG ss names = renP ss (nmgF ss names) from rfl, h1]
  show nmK names (boundK (dclP ss) (meanAt ss (s : Int) (j : Int))) = _
  rw [meanAt_of hq]
  unfold meanIt
  dsimp only
  rw [if_neg (by omega), if_neg (by omega)]
  rfl
theorem dclS_dcl {ss : List Sc} {s : Nat} {p : Int × Int} (h : p ∈ dclS ss s) : p ∈ dclP ss := by
  obtain ⟨j, x, hq, hk, rfl⟩ := dclS_mem h
  exact mem_dcl (placed_item hq) hk
/-- A declaration that is met on the way to what an item means, which is another one. -/
def MetBy (ss : List Sc) (d p : Int × Int) : Prop := ∃ q ∈ placed 0 ss, (q.2.2.kind = 2 ∨ q.2.2.kind = 3) ∧ meanIt ss q = [p] ∧ d ∈ metL (hasNm ss q.2.2.name) (lvOf ss (impP ss) q) ∧ d ≠ p
theorem MetBy.dcl {ss : List Sc} (hv : Valid ss) {d p : Int × Int} (h : MetBy ss d p) : d ∈ dclP ss ∧ p ∈ dclP ss := by
  obtain ⟨q, hq, -, hm, hd, -⟩ := h
  obtain ⟨l, hl, h1⟩ := metL_mem hd
  obtain ⟨s, h2⟩ := lvOf_mem hl d h1
  exact ⟨dclS_dcl h2, mean_dcl hv hq p (by rw [hm]; exact List.mem_singleton.2 rfl)⟩
theorem z_letter {ss : List Sc} {names : ByteArray} (h : nmgOk ss names) {p : Int × Int} (hp : p ∈ dclP ss) : ltP ss names p ≠ ⟨#[122]⟩ := by
  have h0 := posOf_mem hp
  have h1 := posOf_range (dclP ss) p
  have hsz : names.data.toList.length = (dclP ss).length := by rw [Array.length_toList]; exact h.2.1
  have hlt : (posOf (dclP ss) p).toNat < names.data.toList.length := by omega
  unfold ltP nmK
  rw [if_neg (by omega), List.getElem?_eq_getElem hlt, Option.getD_some]
  have h2 := h.2.2 _ (List.getElem_mem hlt)
  generalize names.data.toList[(posOf (dclP ss) p).toNat] = b at h2 ⊢
  intro e
  have h3 := congrArg (fun z : ByteArray => z.data.toList) e
  simp at h3
  subst h3
  have : (122 : UInt8).toNat = 122 := rfl
  omega
/-- What an item means under its new name, where scopes import the same. -/
theorem named_at {ss : List Sc} {names : ByteArray} (h : nmgOk ss names) {i j : Nat} {x : It} (hq : (i, j, x) ∈ placed 0 ss) (hk : x.kind = 2 ∨ x.kind = 3) :
    meanF (nmgG ss names) (impP ss) (i, j, renIt (nmgF ss names) i j x) = meanIt ss (i, j, x) ↔
      ∀ p, meanIt ss (i, j, x) = [p] → ∀ d ∈ metL (hasNm ss x.name) (lvOf ss (impP ss) (i, j, x)), ltP ss names d = ltP ss names p → d = p := by
  have hv := h.1.1
  have hnm : (renIt (nmgF ss names) i j x).name = nmK names (boundK (dclP ss) (meanIt ss (i, j, x))) := by
    show nmK names (boundK (dclP ss) (meanAt ss (i : Int) (j : Int))) = _
    rw [meanAt_of hq]
  have e1 : meanF (nmgG ss names) (impP ss) (i, j, renIt (nmgF ss names) i j x) = lookL (hasNm (nmgG ss names) (renIt (nmgF ss names) i j x).name) (lvOf ss (impP ss) (i, j, x)) := by
    rw [mean_lv _ _ (q := (i, j, renIt (nmgF ss names) i j x)) hk]
    rw [show nmgG ss names = renP ss (nmgF ss names) from rfl, lvOf_ren]
  have e2 : meanIt ss (i, j, x) = lookL (hasNm ss x.name) (lvOf ss (impP ss) (i, j, x)) := (mean_F ss _).trans (mean_lv ss _ (q := (i, j, x)) hk)
  have e3 : ∀ nm, ∀ l ∈ lvOf ss (impP ss) (i, j, x), ∀ d ∈ l, hasNm (nmgG ss names) nm d = decide (ltP ss names d = nm) := by
    intro nm l hl d hd
    obtain ⟨s, hs⟩ := lvOf_mem hl d hd
    unfold hasNm
    rw [nm_named hs]
  have hcl := h.1.2 _ hq
  cases hm : meanIt ss (i, j, x) with
  | nil =>
    refine ⟨fun _ p hp => (by cases hp), fun _ => ?_⟩
    rw [e1]
    refine lookL_none fun l hl d hd => ?_
    rw [e3 _ l hl d hd, hnm, hm]
    obtain ⟨s, hs⟩ := lvOf_mem hl d hd
    have := z_letter h (dclS_dcl hs)
    simp only [decide_eq_false_iff_not]
    exact this
  | cons p r =>
    rw [hm] at hcl
    obtain rfl : r = [] := by
      cases r with
      | nil => rfl
      | cons a b => simp at hcl
    have hpn : (renIt (nmgF ss names) i j x).name = ltP ss names p := by rw [hnm, hm]; rfl
    rw [e2] at hm
    have hpm : ∃ l ∈ lvOf ss (impP ss) (i, j, x), p ∈ l := by
      have : ∀ {L : List (List (Int × Int))} {P : Int × Int → Bool}, p ∈ lookL P L → ∃ l ∈ L, p ∈ l := by
        intro L P
        induction L with
        | nil => intro hh; cases hh
        | cons l r ih =>
          intro hh
          unfold lookL at hh
          split at hh
          · obtain ⟨l', a, b⟩ := ih hh
            exact ⟨l', List.mem_cons_of_mem _ a, b⟩
          · exact ⟨l, List.mem_cons_self, (List.mem_filter.1 hh).1⟩
      exact this (by rw [hm]; exact List.mem_singleton.2 rfl)
    obtain ⟨l, hl, hp⟩ := hpm
    have hQ : hasNm (nmgG ss names) (renIt (nmgF ss names) i j x).name p = true := by rw [e3 _ l hl p hp, hpn]; simp
    rw [e1, lookL_one hQ hm]
    constructor
    · intro h2 p' hp' d hd he
      cases hp'
      obtain ⟨l', hl', hd'⟩ := metL_mem hd
      refine h2 d hd ?_
      rw [e3 _ l' hl' d hd', hpn, he]
      simp
    · intro h2 d hd he
      obtain ⟨l', hl', hd'⟩ := metL_mem hd
      rw [e3 _ l' hl' d hd', hpn] at he
      exact h2 p rfl d hd (by simpa using he)
/-- All items mean the same exactly if no declaration that is met on the way to another one has its letter. -/
theorem good_met {ss : List Sc} {names : ByteArray} (h : nmgOk ss names) : chgA ss (nmgG ss names) = [] ↔ ∀ d p, MetBy ss d p → ltP ss names d ≠ ltP ss names p := by
  have hv := h.1.1
  have hvG := h.valid
  have himp : (∀ i j x, (i, j, x) ∈ placed 0 ss → x.kind = 3 → meantF (nmgG ss names) (impP (nmgG ss names)) i (nmgF ss names i j x.name) = meantP ss i x.name) → impP (nmgG ss names) = impP ss := by
    intro hh
    funext s
    rw [impP_eq hvG.climbs, impP_eq hv.climbs]
    refine impF_ren ss (nmgF ss names) fun j x hx hk => ?_
    rw [← itemsP_at] at hx
    obtain ⟨a, b, h1, h2, hq⟩ := item_placed hx
    obtain rfl : s = a := by omega
    obtain rfl : j = b := by omega
    exact hh s j x hq hk
  constructor
  · rintro hg d p ⟨⟨i, j, x⟩, hq, hk, hm, hd, hne⟩ he
    have hmean : ∀ {i j : Nat} {x : It}, (i, j, x) ∈ placed 0 ss → meanIt (nmgG ss names) (i, j, renIt (nmgF ss names) i j x) = meanIt ss (i, j, x) := fun hq => ren_means (f := nmgF ss names) hg hq
    have hi := himp (fun i j x hq hk3 => by
      have h1 := hmean hq
      unfold meanIt at h1
      dsimp only at h1
      rw [show (renIt (nmgF ss names) i j x).kind = x.kind from rfl, if_neg (by omega), if_pos hk3, if_neg (by omega), if_pos hk3] at h1
      exact h1)
    have h1 := hmean hq
    rw [mean_F, hi] at h1
    exact hne ((named_at h hq hk).1 h1 p hm d hd he)
  · intro hA
    have hat : ∀ {i j : Nat} {x : It}, (i, j, x) ∈ placed 0 ss → (x.kind = 2 ∨ x.kind = 3) → meanF (nmgG ss names) (impP ss) (i, j, renIt (nmgF ss names) i j x) = meanIt ss (i, j, x) := fun hq hk =>
      (named_at h hq hk).2 fun p hm d hd he => Decidable.byContradiction fun hne => hA d p ⟨_, hq, hk, hm, hd, hne⟩ he
    have hi : ∀ s, impP (nmgG ss names) s = impP ss s := by
      intro s
      induction s using Nat.strongRecOn with
      | _ s ih =>
        rw [impP_eq hvG.climbs, impF_congr hvG.climbs (g := impP ss) (fun m hm => ih m hm), impP_eq hv.climbs]
        refine impF_ren ss (nmgF ss names) fun j x hx hk => ?_
        rw [← itemsP_at] at hx
        obtain ⟨a, b, h1, h2, hq⟩ := item_placed hx
        obtain rfl : s = a := by omega
        obtain rfl : j = b := by omega
        have h3 := hat hq (.inr hk)
        rw [mean_F] at h3
        unfold meanF at h3
        dsimp only at h3
        rw [show (renIt (nmgF ss names) s j x).kind = x.kind from rfl, if_neg (by omega), if_pos hk, if_neg (by omega), if_pos hk] at h3
        exact h3
    have hi' : impP (nmgG ss names) = impP ss := funext hi
    unfold chgA filtL
    rw [List.map_eq_nil_iff, List.filter_eq_nil_iff]
    rintro ⟨i, j, x⟩ hq
    have h1 := meanAt_of (placed_ren (f := nmgF ss names) hq)
    dsimp only at h1 ⊢
    rw [show nmgG ss names = renP ss (nmgF ss names) from rfl, h1]
    have h2 : meanIt (nmgG ss names) (i, j, renIt (nmgF ss names) i j x) = meanIt ss (i, j, x) := by
      rcases kind_cases hv hq with hk | hk
      · dsimp only at hk
        unfold meanIt
        dsimp only
        rw [show (renIt (nmgF ss names) i j x).kind = x.kind from rfl, if_neg (by omega), if_neg (by omega), if_neg (by omega), if_neg (by omega)]
      · rw [mean_F, hi']
        exact hat hq hk
    rw [show renP ss (nmgF ss names) = nmgG ss names from rfl, h2]
    simp
/-- The same by the numbers of declarations. -/
def RelI (ss : List Sc) (a b : Nat) : Prop := ∃ d p, (dclP ss)[a]? = some d ∧ (dclP ss)[b]? = some p ∧ MetBy ss d p
theorem RelI.lt {ss : List Sc} {a b : Nat} (h : RelI ss a b) : a < (dclP ss).length ∧ b < (dclP ss).length ∧ a ≠ b := by
  obtain ⟨d, p, h1, h2, q, -, -, -, -, hne⟩ := h
  refine ⟨(List.getElem?_eq_some_iff.1 h1).1, (List.getElem?_eq_some_iff.1 h2).1, ?_⟩
  rintro rfl
  rw [h1] at h2
  exact hne (Option.some.inj h2)
theorem ltP_at {ss : List Sc} {names : ByteArray} (h : nmgOk ss names) {p : Int × Int} {a : Nat} (ha : (dclP ss)[a]? = some p) : ∃ b, names.data.toList[a]? = some b ∧ ltP ss names p = ⟨#[b]⟩ := by
  have h1 := posOf_at (dcl_nodup ss) ha
  have hsz : names.data.toList.length = (dclP ss).length := by rw [Array.length_toList]; exact h.2.1
  have hlt : a < names.data.toList.length := by rw [hsz]; exact (List.getElem?_eq_some_iff.1 ha).1
  refine ⟨_, List.getElem?_eq_getElem hlt, ?_⟩
  unfold ltP nmK
  rw [h1, if_neg (by omega), Int.toNat_natCast, List.getElem?_eq_getElem hlt, Option.getD_some]
theorem good_rel {ss : List Sc} {names : ByteArray} (h : nmgOk ss names) : chgA ss (nmgG ss names) = [] ↔ ∀ a b, RelI ss a b → names.data.toList[a]? ≠ names.data.toList[b]? := by
  rw [good_met h]
  constructor
  · rintro hA a b ⟨d, p, h1, h2, hm⟩ he
    obtain ⟨x, hx, ex⟩ := ltP_at h h1
    obtain ⟨y, hy, ey⟩ := ltP_at h h2
    rw [hx, hy] at he
    refine hA d p hm ?_
    rw [ex, ey, Option.some.inj he]
  · intro hB d p hm he
    obtain ⟨hd, hp⟩ := hm.dcl h.1.1
    obtain ⟨a, h1⟩ := List.mem_iff_getElem?.1 hd
    obtain ⟨b, h2⟩ := List.mem_iff_getElem?.1 hp
    obtain ⟨x, hx, ex⟩ := ltP_at h h1
    obtain ⟨y, hy, ey⟩ := ltP_at h h2
    refine hB a b ⟨d, p, h1, h2, hm⟩ ?_
    rw [hx, hy]
    rw [ex, ey] at he
    have := congrArg (fun z : ByteArray => z.data.toList) he
    simp at this
    rw [this]
end Go.Proofs.YtgehpaojbnpbcaaGreatDoor
namespace Go.Proofs.YtgehpaojbnpbcaaGreatDoor
open Go Go.RowKit
def maxT (l : List Nat) : Nat := l.foldl max 0
def loopN (most : Nat) : Nat → List Nat → List Nat
  | 0, l => l
  | i + 1, l => if l.getD (i + 1) 0 < min (maxT (l.take (i + 1)) + 1) (most - 1) then l.set (i + 1) (l.getD (i + 1) 0 + 1) else loopN most i (l.set (i + 1) 0)
/-- The naming behind one. -/
def nextL (most : Nat) (l : List Nat) : List Nat := loopN most (l.length - 1) l
def spreadL (count most : Nat) : List Nat := (List.range count).map fun i => min i (most - 1)
/-- All ends of so many letters behind so many different ones, with at most some number of them. -/
def rgL : Nat → Nat → Nat → List (List Nat)
  | 0, _, _ => [[]]
  | n + 1, used, most => (List.range (min (used + 1) most)).flatMap fun k => (rgL n (max used (k + 1)) most).map (k :: ·)
def chnL (last : List Nat) (most : Nat) : List (List Nat) → Bool
  | [] => false
  | [x] => x == last
  | x :: y :: r => x != last && nextL most x == y && chnL last most (y :: r)
def rgOk (c m : Nat) : Bool := (rgL c 0 m).head? == some (spreadL c 1) && chnL (spreadL c m) m (rgL c 0 m) && (m != c || (rgL c 0 m).contains (List.range c))
theorem rg_all : ((List.range 8).all fun c => (List.range 7).all fun m => rgOk c (m + 1)) = true := by decide +kernel
theorem rg_ok {c m : Nat} (hc : c ≤ 7) (hm : 1 ≤ m) (hm2 : m ≤ 7) : rgOk c m = true := by
  have h := rg_all
  rw [List.all_eq_true] at h
  have h1 := h c (List.mem_range.2 (by omega))
  rw [List.all_eq_true] at h1
  have h2 := h1 (m - 1) (List.mem_range.2 (by omega))
  rwa [show m - 1 + 1 = m by omega] at h2
theorem rgL_length : ∀ (n used most : Nat) (l : List Nat), l ∈ rgL n used most → l.length = n
  | 0, _, _, l, h => by
    have : l = [] := by simpa [rgL] using h
    rw [this]; rfl
  | n + 1, used, most, l, h => by
    unfold rgL at h
    obtain ⟨k, -, h1⟩ := List.mem_flatMap.1 h
    obtain ⟨r, hr, rfl⟩ := List.mem_map.1 h1
    rw [List.length_cons, rgL_length n _ _ r hr]
theorem rgL_lt : ∀ (n used most : Nat) (l : List Nat), l ∈ rgL n used most → ∀ x ∈ l, x < most
  | 0, _, _, l, h => by
    have : l = [] := by simpa [rgL] using h
    rw [this]; exact fun x hx => by cases hx
  | n + 1, used, most, l, h => by
    unfold rgL at h
    obtain ⟨k, hk, h1⟩ := List.mem_flatMap.1 h
    obtain ⟨r, hr, rfl⟩ := List.mem_map.1 h1
    have hk2 := List.mem_range.1 hk
    intro x hx
    rcases List.mem_cons.1 hx with rfl | hx
    · omega
    · exact rgL_lt n _ _ r hr x hx
/-- What stands in such a list, one behind the other. -/
theorem chn_at {last : List Nat} {most : Nat} : ∀ {L : List (List Nat)}, chnL last most L = true → ∀ (k : Nat) (x : List Nat), L[k]? = some x → (k + 1 = L.length ↔ x = last) ∧ (k + 1 < L.length → L[k + 1]? = some (nextL most x))
  | [], h, _, _, _ => by cases h
  | [y], h, k, x, hk => by
    have hy : y = last := by simpa [chnL] using h
    match k, hk with
    | 0, hk =>
      simp at hk
      subst hk
      exact ⟨⟨fun _ => hy, fun _ => rfl⟩, fun h => by simp at h⟩
    | k + 1, hk => simp at hk
  | y :: z :: r, h, k, x, hk => by
    simp only [chnL, Bool.and_eq_true, bne_iff_ne, ne_eq, beq_iff_eq] at h
    match k, hk with
    | 0, hk =>
      simp at hk
      subst hk
      refine ⟨⟨fun e => by simp at e, fun e => absurd e h.1.1⟩, fun _ => ?_⟩
      show some z = _
      rw [h.1.2]
    | k + 1, hk =>
      have ih := chn_at (L := z :: r) h.2 k x (by simpa using hk)
      refine ⟨⟨fun e => ih.1.1 (by simp at e ⊢; omega), fun e => by have := ih.1.2 e; simp at this ⊢; omega⟩, fun e => ?_⟩
      have := ih.2 (by simp at e ⊢; omega)
      simpa using this
theorem rg_first {c m : Nat} (hc : c ≤ 7) (hm : 1 ≤ m) (hm2 : m ≤ 7) : (rgL c 0 m)[0]? = some (spreadL c 1) := by
  have h := rg_ok hc hm hm2
  unfold rgOk at h
  simp only [Bool.and_eq_true, beq_iff_eq] at h
  rw [← h.1.1, List.head?_eq_getElem?]
theorem rg_next {c m : Nat} (hc : c ≤ 7) (hm : 1 ≤ m) (hm2 : m ≤ 7) {k : Nat} {x : List Nat} (hk : (rgL c 0 m)[k]? = some x) : (k + 1 = (rgL c 0 m).length ↔ x = spreadL c m) ∧ (k + 1 < (rgL c 0 m).length → (rgL c 0 m)[k + 1]? = some (nextL m x)) := by
  have h := rg_ok hc hm hm2
  unfold rgOk at h
  simp only [Bool.and_eq_true] at h
  exact chn_at h.1.2 k x hk
theorem rg_own {c : Nat} (hc : c ≤ 7) (h1 : 1 ≤ c) : List.range c ∈ rgL c 0 c := by
  have h := rg_ok hc h1 hc
  unfold rgOk at h
  simp only [Bool.and_eq_true, Bool.or_eq_true, bne_iff_ne, ne_eq, not_true_eq_false, false_or] at h
  simpa using h.2
theorem spreadL_length (c m : Nat) : (spreadL c m).length = c := by simp [spreadL]
/-- The first of some lists' elements that is good: of a search that begins with some letters. -/
def findG (good : List Nat → Bool) (names : List Nat) (n used most : Nat) : Option (List Nat) := ((rgL n used most).find? fun s => good (names ++ s)).map (names ++ ·)
theorem findG_zero (good : List Nat → Bool) (names : List Nat) (used most : Nat) : findG good names 0 used most = if good names = true then some names else none := by
  unfold findG rgL
  rw [List.find?_cons]
  cases h : good names with
  | true => simp [h]
  | false => simp [h]
/-- One letter more in a search: the first letters up to one. -/
def findK (good : List Nat → Bool) (names : List Nat) (n used most : Nat) : Nat → Option (List Nat)
  | 0 => none
  | k + 1 => match findK good names n used most k with
    | some x => some x
    | none => findG good (names ++ [k]) n (max used (k + 1)) most
theorem findG_succ (good : List Nat → Bool) (names : List Nat) (n used most : Nat) : findG good names (n + 1) used most = findK good names n used most (min (used + 1) most) := by
  have e : ∀ K : Nat, (((List.range K).flatMap fun k => (rgL n (max used (k + 1)) most).map (k :: ·)).find? fun s => good (names ++ s)).map (names ++ ·) = findK good names n used most K := by
    intro K
    induction K with
    | zero => rfl
    | succ K ih =>
      rw [List.range_succ, List.flatMap_append, List.find?_append]
      show _ = (match findK good names n used most K with | some x => some x | none => findG good (names ++ [K]) n (max used (K + 1)) most)
      rw [← ih]
      cases h : ((List.range K).flatMap fun k => (rgL n (max used (k + 1)) most).map (k :: ·)).find? fun s => good (names ++ s) with
      | some x => simp
      | none =>
        simp only [Option.none_or, Option.map_none]
        rw [List.flatMap_singleton, List.find?_map]
        unfold findG
        have hf : ((fun s => good (names ++ s)) ∘ fun x => K :: x) = fun s => good (names ++ [K] ++ s) := by
          funext s
          simp
        rw [hf, Option.map_map]
        congr 1
        funext s
        simp
  exact e _
end Go.Proofs.YtgehpaojbnpbcaaGreatDoor
namespace Go.Proofs.YtgehpaojbnpbcaaGreatDoor
open Go Go.RowKit
/-- A text of letters by their numbers. -/
def txtN (l : List Nat) : ByteArray := ⟨(l.map fun k => UInt8.ofNat (97 + k)).toArray⟩
theorem txtN_list (l : List Nat) : (txtN l).data.toList = l.map fun k => UInt8.ofNat (97 + k) := by simp [txtN]
theorem txtN_size (l : List Nat) : (txtN l).size = l.length := by show (txtN l).data.size = _; rw [← Array.length_toList, txtN_list, List.length_map]
theorem txtN_naming {l : List Nat} (h : ∀ k ∈ l, k < 25) : Naming (txtN l) l.length := by
  refine ⟨txtN_size l, fun b hb => ?_⟩
  rw [txtN_list] at hb
  obtain ⟨k, hk, rfl⟩ := List.mem_map.1 hb
  have := h k hk
  have e : (UInt8.ofNat (97 + k)).toNat = 97 + k := by rw [UInt8.toNat_ofNat']; exact Nat.mod_eq_of_lt (by omega)
  omega
theorem txtN_at {l : List Nat} (h : ∀ k ∈ l, k < 25) (a b : Nat) : (txtN l).data.toList[a]? = (txtN l).data.toList[b]? ↔ l[a]? = l[b]? := by
  rw [txtN_list, List.getElem?_map, List.getElem?_map]
  cases ha : l[a]? with
  | none => cases hb : l[b]? <;> simp
  | some x =>
    cases hb : l[b]? with
    | none => simp
    | some y =>
      have h1 := h x (List.mem_of_getElem? ha)
      have h2 := h y (List.mem_of_getElem? hb)
      simp only [Option.map_some, Option.some.injEq]
      constructor
      · intro e
        have e2 := congrArg UInt8.toNat e
        rw [UInt8.toNat_ofNat', UInt8.toNat_ofNat', Nat.mod_eq_of_lt (by omega), Nat.mod_eq_of_lt (by omega)] at e2
        omega
      · intro e; rw [e]
/-- The graph with letters by their numbers is as good as the graph. -/
def goodN (ss : List Sc) (l : List Nat) : Prop := chgA ss (nmgG ss (txtN l)) = []
instance (ss : List Sc) (l : List Nat) : Decidable (goodN ss l) := inferInstanceAs (Decidable (_ = _))
/-- Two cannot share a name. -/
def Confl (ss : List Sc) (a b : Nat) : Prop := RelI ss a b ∨ RelI ss b a
theorem Confl.symm {ss : List Sc} {a b : Nat} (h : Confl ss a b) : Confl ss b a := h.elim .inr .inl
theorem goodN_iff {ss : List Sc} (hc : Valid ss ∧ Clear ss) {l : List Nat} (hl : l.length = (dclP ss).length) (h25 : ∀ k ∈ l, k < 25) : goodN ss l ↔ ∀ a b, a < b → b < l.length → l[a]? = l[b]? → ¬ Confl ss a b := by
  have hok : nmgOk ss (txtN l) := ⟨hc, by rw [← hl]; exact txtN_naming h25⟩
  unfold goodN
  rw [good_rel hok]
  constructor
  · rintro h a b hab hb he (hr | hr)
    · exact h a b hr ((txtN_at h25 a b).2 he)
    · exact h b a hr ((txtN_at h25 b a).2 he.symm)
  · intro h a b hr he
    obtain ⟨h1, h2, h3⟩ := hr.lt
    have he2 := (txtN_at h25 a b).1 he
    rcases Nat.lt_or_gt_of_ne h3 with hlt | hlt
    · exact h a b hlt (by omega) he2 (.inl hr)
    · exact h b a hlt (by omega) he2.symm (.inr hr)
/-- The letters in order, for the later one of two that of the earlier one. -/
def pairL (n i j : Nat) : List Nat := (List.range n).set (max i j) (min i j)
theorem pairL_length (n i j : Nat) : (pairL n i j).length = n := by simp [pairL]
theorem pairL_get {n i j k : Nat} (hk : k < n) : (pairL n i j)[k]? = some (if k = max i j then min i j else k) := by
  unfold pairL
  rw [List.getElem?_set]
  by_cases h : max i j = k
  · rw [if_pos h, if_pos (by rw [List.length_range]; omega), if_pos h.symm]
  · rw [if_neg h, if_neg (fun e => h e.symm)]
    simp [hk]
theorem pairL_lt {n i j : Nat} (hi : i < n) (_ : j < n) (hn : n ≤ 25) : ∀ k ∈ pairL n i j, k < 25 := by
  intro k hk
  obtain ⟨a, ha⟩ := List.mem_iff_getElem?.1 hk
  have hal : a < n := by have := (List.getElem?_eq_some_iff.1 ha).1; rwa [pairL_length] at this
  rw [pairL_get hal] at ha
  have := Option.some.inj ha
  split at this <;> omega
theorem share_iff {ss : List Sc} (hc : Valid ss ∧ Clear ss) {i j : Nat} (hi : i < (dclP ss).length) (hj : j < (dclP ss).length) (hne : i ≠ j) (hn : (dclP ss).length ≤ 25) : goodN ss (pairL (dclP ss).length i j) ↔ ¬ Confl ss i j := by
  rw [goodN_iff hc (pairL_length _ _ _) (pairL_lt hi hj hn)]
  constructor
  · intro h
    have e : (pairL (dclP ss).length i j)[min i j]? = (pairL (dclP ss).length i j)[max i j]? := by
      rw [pairL_get (by omega), pairL_get (by omega), if_neg (by omega), if_pos rfl]
    have h1 := h (min i j) (max i j) (by omega) (by rw [pairL_length]; omega) e
    by_cases hlt : i < j
    · rwa [Nat.min_eq_left (by omega), Nat.max_eq_right (by omega)] at h1
    · rw [Nat.min_eq_right (by omega), Nat.max_eq_left (by omega)] at h1
      exact fun hcf => h1 hcf.symm
  · intro h a b hab hb he
    rw [pairL_length] at hb
    rw [pairL_get (by omega), pairL_get hb] at he
    have he2 := Option.some.inj he
    have : (a = i ∧ b = j) ∨ (a = j ∧ b = i) := by
      split at he2 <;> split at he2 <;> omega
    rcases this with ⟨rfl, rfl⟩ | ⟨rfl, rfl⟩
    · exact h
    · exact fun hcf => h hcf.symm
/-- A naming is good exactly if any two that have one letter can share it. -/
theorem good_pairs {ss : List Sc} (hc : Valid ss ∧ Clear ss) {l : List Nat} (hl : l.length = (dclP ss).length) (h25 : ∀ k ∈ l, k < 25) (hn : (dclP ss).length ≤ 25) :
    goodN ss l ↔ ∀ a b, a < b → b < l.length → l[a]? = l[b]? → goodN ss (pairL (dclP ss).length b a) := by
  rw [goodN_iff hc hl h25]
  constructor
  · intro h a b hab hb he
    rw [share_iff hc (by omega) (by omega) (by omega) hn]
    exact fun hcf => h a b hab hb he hcf.symm
  · intro h a b hab hb he hcf
    exact (share_iff hc (by omega) (by omega) (by omega) hn).1 (h a b hab hb he) hcf.symm
/-- With a letter each all is good. -/
theorem good_own {ss : List Sc} (hc : Valid ss ∧ Clear ss) (hn : (dclP ss).length ≤ 25) : goodN ss (List.range (dclP ss).length) := by
  rw [goodN_iff hc (List.length_range ..) (fun k hk => by have := List.mem_range.1 hk; omega)]
  intro a b hab hb he
  rw [List.length_range] at hb
  rw [List.getElem?_range (by omega), List.getElem?_range hb] at he
  simp at he
  omega
end Go.Proofs.YtgehpaojbnpbcaaGreatDoor
