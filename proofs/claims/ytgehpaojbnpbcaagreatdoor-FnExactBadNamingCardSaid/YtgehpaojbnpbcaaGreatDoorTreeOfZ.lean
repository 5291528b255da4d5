/-
  What a tree says of the graph that it was made of: its nodes, their parents, what its two maps hold; when an item may be added. Plain facts.
-/
import Derived.Test.YtgehpaojbnpbcaaGreatDoorWAllZ
namespace Go.Proofs.YtgehpaojbnpbcaaGreatDoor
open Go Go.RowKit Go.Maps
/-- The nodes' parents are the scopes' parents. -/
def Pars (ds : List Nd) (ss : List Sc) : Prop := ∀ (i : Nat) (d : Nd) (s : Sc), ds[i]? = some d → ss[i]? = some s → d.par = newPar ds s.parent
theorem scope_parent {i : Nat} {s : Sc} (h : scopeB i s = true) : (i = 0 ∧ s.parent = -1) ∨ (∃ p : Nat, s.parent = (p : Int) ∧ p < i) := by
  unfold scopeB parentB at h
  rw [Bool.and_eq_true] at h
  obtain ⟨_, h⟩ := h
  split at h
  · rename_i h0
    exact .inl ⟨h0, by simpa using h⟩
  · rename_i h0
    unfold inB at h
    simp only [Bool.and_eq_true, decide_eq_true_eq] at h
    exact .inr ⟨s.parent.toNat, by omega, by omega⟩
theorem scope_items {i : Nat} {s : Sc} (h : scopeB i s = true) : s.items.length ≤ 5 := by
  unfold scopeB at h
  rw [Bool.and_eq_true] at h
  simpa using h.1
theorem newPar_snoc {ds : List Nd} {nd : Nd} {s : Sc} {i : Nat} (h : scopeB i s = true) (hi : i ≤ ds.length) : newPar (ds ++ [nd]) s.parent = newPar ds s.parent := by
  unfold newPar
  rcases scope_parent h with ⟨_, hp⟩ | ⟨p, hp, hlt⟩
  · rw [if_pos hp, if_pos hp]
  · rw [if_neg (by omega), if_neg (by omega), hp, Int.toNat_natCast, List.getElem?_append_left (by omega)]
theorem Pars.snoc {ds : List Nd} {ss : List Sc} {nd : Nd} {s : Sc} (h : Pars ds ss) (hl : ds.length = ss.length) (hs : ∀ i t, (ss ++ [s])[i]? = some t → scopeB i t = true) (hn : nd.par = newPar ds s.parent) : Pars (ds ++ [nd]) (ss ++ [s]) := by
  intro i d t hd ht
  have hil : i < (ss ++ [s]).length := (List.getElem?_eq_some_iff.1 ht).1
  simp only [List.length_append, List.length_cons, List.length_nil] at hil
  rw [newPar_snoc (hs i t ht) (by omega)]
  by_cases he : i < ss.length
  · rw [List.getElem?_append_left he] at ht
    rw [List.getElem?_append_left (by omega)] at hd
    exact h i d t hd ht
  · obtain rfl : i = ss.length := by omega
    rw [List.getElem?_append_right (by omega)] at hd ht
    rw [hl, Nat.sub_self] at hd
    rw [Nat.sub_self] at ht
    simp at hd ht
    subst hd ht
    exact hn
theorem blk_inj {ds : List Nd} (h : (ds.map Nd.blk).Nodup) {i j : Nat} {d e : Nd} (hi : ds[i]? = some d) (hj : ds[j]? = some e) (hb : d.blk = e.blk) : i = j := by
  have h1 : (ds.map Nd.blk)[i]? = some d.blk := by rw [List.getElem?_map, hi]; rfl
  have h2 : (ds.map Nd.blk)[j]? = some d.blk := by rw [List.getElem?_map, hj, hb]; rfl
  obtain ⟨hil, hie⟩ := List.getElem?_eq_some_iff.1 h1
  obtain ⟨hjl, hje⟩ := List.getElem?_eq_some_iff.1 h2
  rw [List.nodup_iff_pairwise_ne, List.pairwise_iff_getElem] at h
  rcases Nat.lt_trichotomy i j with hlt | heq | hgt
  · exact absurd (hie.trans hje.symm) (h i j hil hjl hlt)
  · exact heq
  · exact absurd (hje.trans hie.symm) (h j i hjl hil hgt)
/-- A node's parent is that of number k exactly if its scope's parent is k. -/
theorem par_iff {ds : List Nd} {ss : List Sc} (hl : ds.length = ss.length) (hinj : (ds.map Nd.blk).Nodup) (hp : Pars ds ss) (hs : ∀ i s, ss[i]? = some s → scopeB i s = true) {k m : Nat} {d c : Nd} {s : Sc} (hd : ds[k]? = some d) (hc : ds[m]? = some c) (hm : ss[m]? = some s) :
    c.par = some ⟨d.blk, 0, none⟩ ↔ s.parent = (k : Int) := by
  rw [hp m c s hc hm]
  have hml := (List.getElem?_eq_some_iff.1 hm).1
  unfold newPar
  rcases scope_parent (hs m s hm) with ⟨_, h1⟩ | ⟨p, h1, hlt⟩
  · rw [if_pos h1]
    constructor
    · intro h; cases h
    · intro h; omega
  · rw [if_neg (by omega), h1, Int.toNat_natCast]
    obtain ⟨e, he⟩ : ∃ e, ds[p]? = some e := ⟨_, List.getElem?_eq_getElem (by omega)⟩
    rw [he]
    simp only [Option.map_some, Option.some.injEq, Addr.mk.injEq, and_true]
    constructor
    · intro h
      have := blk_inj hinj he hd h
      omega
    · intro h
      obtain rfl : p = k := by omega
      rw [he] at hd
      cases hd
      rfl
theorem parB_iff {ds : List Nd} {ss : List Sc} (hl : ds.length = ss.length) (hinj : (ds.map Nd.blk).Nodup) (hp : Pars ds ss) (hs : ∀ i s, ss[i]? = some s → scopeB i s = true) {k : Nat} {d : Nd} (hd : ds[k]? = some d) (n : Int) :
    parB ds n (some ⟨d.blk, 0, none⟩) = true ↔ inB n ((k : Int) + 1) ((ss.length : Int) - 1) = true ∧ ss[n.toNat]?.map Sc.parent = some (k : Int) := by
  unfold parB
  by_cases h0 : 0 ≤ n
  · obtain ⟨m, rfl⟩ : ∃ m : Nat, n = (m : Int) := ⟨n.toNat, by omega⟩
    simp only [Int.toNat_natCast]
    rw [decide_eq_true h0, Bool.true_and]
    by_cases hm : m < ss.length
    · obtain ⟨s, hsm⟩ : ∃ s, ss[m]? = some s := ⟨_, List.getElem?_eq_getElem hm⟩
      obtain ⟨c, hc⟩ : ∃ c, ds[m]? = some c := ⟨_, List.getElem?_eq_getElem (by omega)⟩
      rw [hc, hsm]
      simp only [decide_eq_true_eq, Option.map_some, Option.some.injEq]
      rw [par_iff hl hinj hp hs hd hc hsm]
      constructor
      · intro h
        refine ⟨?_, h⟩
        rcases scope_parent (hs m s hsm) with ⟨_, h1⟩ | ⟨p, h1, hlt⟩
        · omega
        · unfold inB; simp only [Bool.and_eq_true, decide_eq_true_eq]; omega
      · exact fun h => h.2
    · rw [List.getElem?_eq_none (by omega), List.getElem?_eq_none (by omega)]
      simp
  · rw [decide_eq_false h0]
    simp only [Bool.false_and, Bool.false_eq_true, false_iff, not_and]
    intro h
    unfold inB at h
    simp only [Bool.and_eq_true, decide_eq_true_eq] at h
    omega
/-- An item may be added exactly if it is good behind those that came. -/
theorem okItem_iff {ds : List Nd} {ss : List Sc} (hl : ds.length = ss.length) (hinj : (ds.map Nd.blk).Nodup) (hp : Pars ds ss) (hs : ∀ i s, ss[i]? = some s → scopeB i s = true) {k : Nat} {d : Nd} (hd : ds[k]? = some d)
    {D : DataW Unit} {xs : List It} (hD : ∀ m : Int, Maps.has D (.int .i64 m) = true ↔ m ∈ modsOf xs) (x : It) :
    okItem ds d D x = true ↔ itemB x = true ∧ modB ss k x = true ∧ (x.scope = -1 ∨ x.scope ∉ modsOf xs) := by
  unfold okItem modB
  by_cases h1 : x.scope = -1
  · simp [h1]
  · have h0 : (x.scope == -1) = false := by simpa using h1
    rw [h0]
    simp only [Bool.false_or, Bool.and_eq_true, Bool.not_eq_true', h1, false_or, beq_iff_eq]
    rw [parB_iff hl hinj hp hs hd, ← hD x.scope, Bool.not_eq_true]
def plKey (q : Nat × Nat × It) : Lit := plLit (q.1 : Int) (q.2.1 : Int)
def itVal (q : Nat × Nat × It) : DataW Unit := itemD q.2.2
def modKey (q : Nat × Nat × It) : Lit := .int .i64 q.2.2.scope
def modVal (q : Nat × Nat × It) : DataW Unit := placeD (q.1 : Int) (q.2.1 : Int)
def isMod (q : Nat × Nat × It) : Bool := q.2.2.scope != -1
/-- What the two maps hold when some items have come. -/
def itemsD (l : List (Nat × Nat × It)) : DataW Unit := putInto plKey itVal (.map []) l
def modsD (l : List (Nat × Nat × It)) : DataW Unit := putInto modKey modVal (.map []) (l.filter isMod)
theorem plKey_is (q : Nat × Nat × It) : WideAt.IsKeyLit (plKey q) := trivial
theorem modKey_is (q : Nat × Nat × It) : WideAt.IsKeyLit (modKey q) := trivial
theorem itemsD_snoc (l : List (Nat × Nat × It)) (q : Nat × Nat × It) : itemsD (l ++ [q]) = (itemsD l).put (plLit (q.1 : Int) (q.2.1 : Int)) (itemD q.2.2) := putInto_snoc _ _ _ _ _
theorem modsD_snoc (l : List (Nat × Nat × It)) (q : Nat × Nat × It) : modsD (l ++ [q]) = if q.2.2.scope = -1 then modsD l else (modsD l).put (.int .i64 q.2.2.scope) (placeD (q.1 : Int) (q.2.1 : Int)) := by
  unfold modsD
  rw [List.filter_append]
  by_cases h : q.2.2.scope = -1
  · rw [if_pos h]
    have : [q].filter isMod = [] := by simp [isMod, h]
    rw [this, List.append_nil]
  · rw [if_neg h]
    have : [q].filter isMod = [q] := by simp [isMod, h]
    rw [this]
    exact putInto_snoc _ _ _ _ _
/-- Scopes of modules among placed items. -/
def modsP (l : List (Nat × Nat × It)) : List Int := modsOf (l.map fun q => q.2.2)
theorem modsP_mem {l : List (Nat × Nat × It)} {m : Int} : m ∈ modsP l ↔ ∃ q ∈ l, isMod q = true ∧ q.2.2.scope = m := by
  unfold modsP modsOf isMod
  simp only [List.mem_map, List.mem_filter]
  constructor
  · rintro ⟨x, ⟨⟨q, hq, rfl⟩, h⟩, rfl⟩; exact ⟨q, hq, h, rfl⟩
  · rintro ⟨q, hq, h, rfl⟩; exact ⟨_, ⟨⟨q, hq, rfl⟩, h⟩, rfl⟩
theorem has_nil (k : Lit) : Maps.has (.map [] : DataW Unit) k = false := rfl
theorem modsD_has (l : List (Nat × Nat × It)) (m : Int) : Maps.has (modsD l) (.int .i64 m) = true ↔ m ∈ modsP l := by
  unfold modsD
  rw [putInto_has _ _ modKey_is _ _ _ Maps.isMap_empty, has_nil, modsP_mem]
  constructor
  · rintro (h | ⟨q, hq, h⟩)
    · cases h
    · obtain ⟨h1, h2⟩ := List.mem_filter.1 hq
      exact ⟨q, h1, h2, by simpa [modKey] using h⟩
  · rintro ⟨q, hq, h1, h2⟩
    exact .inr ⟨q, List.mem_filter.2 ⟨hq, h1⟩, by rw [modKey, h2]⟩
/-- Graphs that are small enough for places to be told apart. -/
structure Small (ss : List Sc) : Prop where
  len : ss.length < 1000
  items : ∀ s ∈ ss, s.items.length < 1000
theorem Small.lt {ss : List Sc} (h : Small ss) {q : Nat × Nat × It} (hq : q ∈ placed 0 ss) : q.1 < 1000 ∧ q.2.1 < 1000 := by
  obtain ⟨s, _, h1, h2⟩ := mem_placed.1 hq
  have a := (List.getElem?_eq_some_iff.1 h1).1
  have b := (List.getElem?_eq_some_iff.1 h2).1
  have c := h.items s (List.mem_of_getElem? h1)
  have := h.len
  omega
theorem Valid.small {ss : List Sc} (h : Valid ss) : Small ss where
  len := by have := h.count; omega
  items := fun s hs => by
    obtain ⟨i, hi⟩ := List.mem_iff_getElem?.1 hs
    have := scope_items (h.scopes i s hi)
    omega
theorem placed_apart (i : Nat) : ∀ ss : List Sc, (placed i ss).Pairwise fun a b => ¬ (a.1 = b.1 ∧ a.2.1 = b.2.1)
  | [] => by simp [placed]
  | s :: r => by
    unfold placed
    rw [List.pairwise_append]
    refine ⟨?_, placed_apart (i + 1) r, ?_⟩
    · rw [List.pairwise_map]
      have : ∀ (l : List It) (n : Nat), (l.zipIdx n).Pairwise fun a b => ¬ (a.2 = b.2) := by
        intro l
        induction l with
        | nil => intro n; simp
        | cons x t ih =>
          intro n
          rw [List.zipIdx_cons, List.pairwise_cons]
          refine ⟨fun p hp => ?_, ih (n + 1)⟩
          obtain ⟨y, j⟩ := p
          have := (List.mem_zipIdx hp).1
          simp only
          omega
      exact (this s.items 0).imp fun h e => h e.2
    · intro a ha b hb
      obtain ⟨⟨y, j⟩, _, rfl⟩ := List.mem_map.1 ha
      obtain ⟨_, h1, _, _⟩ := mem_placed.1 hb
      simp only
      omega
theorem plKey_apart {ss : List Sc} (h : Small ss) : ((placed 0 ss).map plKey).Nodup := by
  unfold List.Nodup
  rw [List.pairwise_map]
  refine (placed_apart 0 ss).imp_of_mem fun {a b} ha hb hne he => hne ?_
  have h1 := h.lt ha
  have h2 := h.lt hb
  have := plLit_inj (wf_small h1.1) (wf_small h1.2) (wf_small h2.1) (wf_small h2.2) he
  omega
theorem itemsD_at {ss : List Sc} (h : Small ss) {k j : Nat} {s : Sc} {x : It} (hs : ss[k]? = some s) (hx : s.items[j]? = some x) (z : DataW Unit) : (itemsD (placed 0 ss)).atKey (plLit (k : Int) (j : Int)) z = itemD x :=
  putInto_at plKey itVal plKey_is z (placed 0 ss) (.map []) Maps.isMap_empty (plKey_apart h) (k, j, x) (mem_placed.2 ⟨s, Nat.zero_le _, by simpa using hs, hx⟩)
theorem itemsD_has {ss : List Sc} (h : Small ss) {a b : Int} (ha : (Lit.int .i64 a).wf = true) (hb : (Lit.int .i64 b).wf = true) :
    Maps.has (itemsD (placed 0 ss)) (plLit a b) = true ↔ ∃ (k j : Nat) (s : Sc) (x : It), a = (k : Int) ∧ b = (j : Int) ∧ ss[k]? = some s ∧ s.items[j]? = some x := by
  unfold itemsD
  rw [putInto_has _ _ plKey_is _ _ _ Maps.isMap_empty, has_nil]
  constructor
  · rintro (h' | ⟨q, hq, he⟩)
    · cases h'
    · have h1 := h.lt hq
      obtain ⟨e1, e2⟩ := plLit_inj (wf_small h1.1) (wf_small h1.2) ha hb he
      obtain ⟨s, _, h2, h3⟩ := mem_placed.1 hq
      exact ⟨q.1, q.2.1, s, q.2.2, e1.symm, e2.symm, by simpa using h2, h3⟩
  · rintro ⟨k, j, s, x, rfl, rfl, h1, h2⟩
    exact .inr ⟨(k, j, x), mem_placed.2 ⟨s, Nat.zero_le _, by simpa using h1, h2⟩, rfl⟩
end Go.Proofs.YtgehpaojbnpbcaaGreatDoor
