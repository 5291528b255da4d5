/-
  What items mean and their states, as plain data; the meanings in memory: a map told by the slices that it holds. Plain facts.
-/
import Derived.Test.YtppgdigcopkeiaaDoorLookW
namespace Go.Proofs.YtppgdigcopkeiaaDoor
open Go Go.RowKit Go.Maps
/-- What an item means. -/
def meanIt (ss : List Sc) (q : Nat × Nat × It) : List (Int × Int) :=
  if q.2.2.kind = 2 then (lookP ss q.1 q.2.2.name).places else if q.2.2.kind = 3 then meantP ss q.1 q.2.2.name else [((q.1 : Int), (q.2.1 : Int))]
/-- The scope of the module that a list has alone, or -1. -/
def aloneP (ss : List Sc) (l : List (Int × Int)) : Int := match l with
  | [p] => scopeAt ss p
  | _ => -1
theorem aloneP_not {ss : List Sc} {l : List (Int × Int)} (h : l.length ≠ 1) : aloneP ss l = -1 := by
  unfold aloneP
  split
  · exact absurd rfl h
  · rfl
theorem targetP_alone (ss : List Sc) (s : Nat) (nm : ByteArray) : targetP ss s nm = aloneP ss (meantP ss s nm) := by
  by_cases h : (meantP ss s nm).length = 1
  · obtain ⟨p, hp⟩ := List.length_eq_one_iff.1 h
    rw [targetP_one hp, hp]; rfl
  · rw [targetP_not h, aloneP_not h]
/-- The state of an item. -/
def stateIt (ss : List Sc) (q : Nat × Nat × It) : Int :=
  if (meanIt ss q).length = 0 then 2 else if 1 < (meanIt ss q).length then 3 else if q.2.2.kind = 3 ∧ aloneP ss (meanIt ss q) = -1 then 4 else 1
theorem meantP_short {ss : List Sc} (hv : Valid ss) (s : Nat) (nm : ByteArray) : (meantP ss s nm).length ≤ 25 := by
  unfold meantP meantF
  split
  · split
    · simp
    · exact lookF_length hv _ _
  · have := ownP_length hv s nm; omega
theorem meanIt_length {ss : List Sc} (hv : Valid ss) (q : Nat × Nat × It) : (meanIt ss q).length ≤ 25 := by
  unfold meanIt
  split
  · exact lookF_length hv _ _
  · split
    · exact meantP_short hv _ _
    · simp
theorem meanIt_isPlace {ss : List Sc} {q : Nat × Nat × It} (hq : q ∈ placed 0 ss) : ∀ p ∈ meanIt ss q, IsPlace ss p := by
  intro p hp
  unfold meanIt at hp
  split at hp
  · exact look_isPlace p hp
  · split at hp
    · exact meant_isPlace p hp
    · rw [List.mem_singleton] at hp
      obtain ⟨s, _, h1, h2⟩ := mem_placed.1 hq
      exact ⟨q.1, q.2.1, s, q.2.2, hp, by simpa using h1, h2⟩
theorem placed_at {ss : List Sc} {q : Nat × Nat × It} (hq : q ∈ placed 0 ss) : ∃ s, ss[q.1]? = some s ∧ s.items[q.2.1]? = some q.2.2 := by
  obtain ⟨s, _, h1, h2⟩ := mem_placed.1 hq
  exact ⟨s, by simpa using h1, h2⟩
theorem placed_of {ss : List Sc} {i j : Nat} {s : Sc} {x : It} (hs : ss[i]? = some s) (hx : s.items[j]? = some x) : (i, j, x) ∈ placed 0 ss := mem_placed.2 ⟨s, Nat.zero_le _, by simpa using hs, hx⟩
theorem placed_item {ss : List Sc} {q : Nat × Nat × It} (hq : q ∈ placed 0 ss) : itemAtP ss (q.1 : Int) (q.2.1 : Int) = some q.2.2 := by
  obtain ⟨s, h1, h2⟩ := placed_at hq
  rw [itemAtP_nat h1, h2]
/-- Where an item is at a place, it is among all. -/
theorem item_placed {ss : List Sc} {a b : Int} {x : It} (h : itemAtP ss a b = some x) : ∃ i j : Nat, a = (i : Int) ∧ b = (j : Int) ∧ (i, j, x) ∈ placed 0 ss := by
  unfold itemAtP at h
  split at h
  · rename_i h0
    cases hc : ss[a.toNat]? with
    | none => rw [hc] at h; cases h
    | some c =>
      rw [hc] at h
      exact ⟨a.toNat, b.toNat, by omega, by omega, placed_of hc h⟩
  · cases h
/-- How slices read, as elements of maps. -/
def sliceD (v : Value) : DataW Unit := match v with
  | .slice none n c => .agg [numD (n : Int), numD (c : Int)]
  | .slice (some ⟨b, o, none⟩) n c => .agg [numD (b : Int), numD (o : Int), numD (n : Int), numD (c : Int)]
  | _ => .agg []
def sliceR (v : Value) : Option (DataW Unit × List MemPlace) := match v with
  | .slice none n c => some (.agg [numD (n : Int), numD (c : Int)], [])
  | .slice (some ⟨b, o, none⟩) n c => some (.agg [numD (b : Int), numD (o : Int), numD (n : Int), numD (c : Int)], [])
  | _ => none
theorem sliceR_own {w : World} {B n : Nat} {e : TypeId} {size : Nat} {u : Value} {xs : List Value} (h : w.ownsRow B e size u n xs) : sliceR u = some (sliceD u, []) := by
  rcases h.2 with ⟨rfl, _⟩ | ⟨g, cap, cur, rfl, _⟩ <;> rfl
theorem sliceR_eq {u v : Value} {ps : List MemPlace} (hu : sliceR u = some (sliceD u, [])) (h : sliceR v = some (sliceD u, ps)) : v = u := by
  unfold sliceR at h
  split at h
  · rename_i n c
    unfold sliceR at hu
    split at hu
    · rename_i n' c'
      simp [sliceD, numD] at h
      obtain ⟨⟨h1, h2⟩, _⟩ := h
      obtain rfl : n = n' := by omega
      obtain rfl : c = c' := by omega
      rfl
    · simp [sliceD] at h
    · cases hu
  · rename_i b o n c
    unfold sliceR at hu
    split at hu
    · simp [sliceD] at h
    · rename_i b' o' n' c'
      simp [sliceD, numD] at h
      obtain ⟨⟨h1, h2, h3, h4⟩, _⟩ := h
      obtain rfl : b = b' := by omega
      obtain rfl : o = o' := by omega
      obtain rfl : n = n' := by omega
      obtain rfl : c = c' := by omega
      rfl
    · cases hu
  · cases h
theorem zeroSlice (w : World) : (zeroValue 39).run Tryd.prog w = .ok (.slice none 0 0) w := by kernel_rfl
/-- The meanings of some items, each a list of its own. -/
abbrev Ent := (Nat × Nat × It) × Value
def entKey (e : Ent) : Lit := plKey e.1
def entVal (e : Ent) : DataW Unit := sliceD e.2
theorem entKey_is (e : Ent) : WideAt.IsKeyLit (entKey e) := trivial
def entsD (l : List Ent) : DataW Unit := putInto entKey entVal (.map []) l
structure MeanW (w : World) (B MR : Nat) (ss : List Sc) (l : List Ent) : Prop where
  map : w.ownsMap Tryd.prog 34 sliceR MR l.length (entsD l)
  lists : ∀ e ∈ l, w.ownsRow B 34 2 e.2 (meanIt ss e.1).length (placeCells (meanIt ss e.1))
theorem ownsRow_cells {w w' : World} {B n size : Nat} {e : TypeId} {u : Value} {xs : List Value} (h : w.ownsRow B e size u n xs) (hk : CellsKept w.heap.size w w') : w'.ownsRow B e size u n xs := by
  obtain ⟨h1, h2 | ⟨g, cap, cur, hv, hB, hh, r⟩⟩ := h
  · exact ⟨h1, .inl h2⟩
  · exact ⟨h1, .inr ⟨g, cap, cur, hv, hB, hk.block g _ _ _ (Array.getElem?_eq_some_iff.1 hh).1 hh, r⟩⟩
theorem ownsMap_same {w w' : World} {k : TypeId} {R : Value → Option (DataW Unit × List MemPlace)} {M n : Nat} {D : DataW Unit} (h : w.ownsMap Tryd.prog k R M n D) (hs : w'.heap[M]? = w.heap[M]?) : w'.ownsMap Tryd.prog k R M n D := by
  obtain ⟨es, clock, hh, r⟩ := h
  exact ⟨es, clock, hs.trans hh, r⟩
theorem MeanW.lt {w : World} {B MR : Nat} {ss : List Sc} {l : List Ent} (h : MeanW w B MR ss l) : MR < w.heap.size := by
  obtain ⟨es, clock, hh, _⟩ := h.map
  exact (Array.getElem?_eq_some_iff.1 hh).1
theorem MeanW.kept {w w' : World} {B MR : Nat} {ss : List Sc} {l : List Ent} (h : MeanW w B MR ss l) (hk : CellsKept w.heap.size w w') (hs : w'.heap[MR]? = w.heap[MR]?) : MeanW w' B MR ss l :=
  ⟨ownsMap_same h.map hs, fun e he => ownsRow_cells (h.lists e he) hk⟩
theorem MeanW.below {w w' : World} {B MR : Nat} {ss : List Sc} {l : List Ent} (h : MeanW w B MR ss l) (hb : Below w.heap.size w w') : MeanW w' B MR ss l :=
  h.kept (.of_below hb) (hb.block _ h.lt)
theorem MeanW.lower {w : World} {B B' MR : Nat} {ss : List Sc} {l : List Ent} (h : MeanW w B MR ss l) (hB : B' ≤ B) : MeanW w B' MR ss l := ⟨h.map, fun e he => ownsRow_lower (h.lists e he) hB⟩
/-- A meaning more. -/
theorem mean_put {w : World} {B MR : Nat} {ss : List Sc} {l : List Ent} (hv : Valid ss) (h : MeanW w B MR ss l) (hl : l.length < 1000) {i j : Nat} {x : It} (hq : (i, j, x) ∈ placed 0 ss) {u : Value} (hu : w.ownsRow B 34 2 u (meanIt ss (i, j, x)).length (placeCells (meanIt ss (i, j, x)))) :
    ∃ w', (Instr.mapUpdate 89 (.map (some MR)) (.agg #[.int .i64 (i : Int), .int .i64 (j : Int)]) u).run Tryd.prog w = .ok () w' ∧ MeanW w' B MR ss (l ++ [((i, j, x), u)]) ∧ w.grownBy w' (some MR) := by
  have hlt := hv.small.lt hq
  obtain ⟨w', hrun, hown, hg⟩ := h.map.update (t := 89) (e := 39) placeLaw Tryd.underlying89 (by unfold maxLen; omega) (pl_key (a := (i : Int)) (b := (j : Int)) (wf_small hlt.1) (wf_small hlt.2)) (sliceR_own hu)
  have hck : CellsKept w.heap.size w w' := ⟨hg.size, fun g vs t fr _ hh => by
    refine (hg.block g (Array.getElem?_eq_some_iff.1 hh).1 (fun e => ?_)).trans hh
    cases e
    obtain ⟨es, clock, h1, _⟩ := h.map
    rw [h1] at hh; cases hh⟩
  refine ⟨w', hrun, ⟨?_, fun e he => ?_⟩, hg⟩
  · rw [List.length_append]
    unfold entsD
    rw [putInto_snoc]
    exact hown
  · rcases List.mem_append.1 he with h1 | h1
    · exact ownsRow_cells (h.lists e h1) hck
    · rw [List.mem_singleton] at h1
      subst h1
      exact ownsRow_cells hu hck
theorem entKeys {l : List Ent} : l.map entKey = (l.map Prod.fst).map plKey := by rw [List.map_map]; rfl
/-- What the meanings of all items answer at a place. -/
theorem mean_look {w : World} {B MR : Nat} {ss : List Sc} {l : List Ent} (hv : Valid ss) (h : MeanW w B MR ss l) (hf : l.map Prod.fst = placed 0 ss) {a b : Int} (ha : (Lit.int .i64 a).wf = true) (hb : (Lit.int .i64 b).wf = true) :
    ∃ u, (Instr.lookup 89 (.map (some MR)) (.agg #[.int .i64 a, .int .i64 b]) true).run Tryd.prog w = .ok (.tuple #[u, .bool (itemAtP ss a b).isSome]) w ∧
      (Instr.lookup 89 (.map (some MR)) (.agg #[.int .i64 a, .int .i64 b]) false).run Tryd.prog w = .ok u w ∧
      ((itemAtP ss a b = none ∧ u = .slice none 0 0) ∨ ∃ i j x, a = (i : Nat) ∧ b = (j : Nat) ∧ itemAtP ss a b = some x ∧ (i, j, x) ∈ placed 0 ss ∧ w.ownsRow B 34 2 u (meanIt ss (i, j, x)).length (placeCells (meanIt ss (i, j, x)))) := by
  have hD : Maps.has (entsD l) (plLit a b) = (itemAtP ss a b).isSome := by
    rw [← (look_item hv.small ha hb).1]
    have e1 := putInto_has entKey entVal entKey_is (plLit a b) l (.map []) nilMap
    have e2 := putInto_has plKey itVal plKey_is (plLit a b) (placed 0 ss) (.map []) nilMap
    have e3 : (∃ x ∈ l, entKey x = plLit a b) ↔ ∃ x ∈ placed 0 ss, plKey x = plLit a b := by
      rw [← hf]
      constructor
      · rintro ⟨e, he, hk⟩; exact ⟨e.1, List.mem_map_of_mem he, hk⟩
      · rintro ⟨q, hq, hk⟩
        obtain ⟨e, he, rfl⟩ := List.mem_map.1 hq
        exact ⟨e, he, hk⟩
    rw [e3] at e1
    exact Bool.eq_iff_iff.2 (e1.trans e2.symm)
  obtain ⟨v1, ps1, hrun1, hv1⟩ := h.map.look_ok (t := 89) (e := 39) placeLaw Tryd.underlying89 (zeroSlice _) (by rfl) (pl_key ha hb)
  obtain ⟨v2, ps2, hrun2, hv2⟩ := h.map.lookup (t := 89) (e := 39) placeLaw Tryd.underlying89 (zeroSlice _) (by rfl) (pl_key ha hb)
  rw [hD] at hrun1
  cases hx : itemAtP ss a b with
  | none =>
    have hz : sliceR (.slice none 0 0) = some (sliceD (.slice none 0 0), []) := rfl
    have e0 : (entsD l).atKey (plLit a b) (sliceD (.slice none 0 0)) = sliceD (.slice none 0 0) := Maps.atKey_of_not_has (by rw [hD, hx]; rfl) _
    obtain rfl := sliceR_eq hz (e0 ▸ hv1)
    obtain rfl := sliceR_eq hz (e0 ▸ hv2)
    refine ⟨_, ?_, hrun2, .inl ⟨rfl, rfl⟩⟩
    rw [hx] at hrun1
    exact hrun1
  | some x =>
    obtain ⟨i, j, rfl, rfl, hq⟩ := item_placed hx
    obtain ⟨e, he, hqe⟩ := List.mem_map.1 (hf ▸ hq)
    have e0 := putInto_at entKey entVal entKey_is (sliceD (.slice none 0 0)) l (.map []) nilMap (by rw [entKeys, hf]; exact plKey_apart hv.small) e he
    have ek : entKey e = plLit (i : Int) (j : Int) := by unfold entKey; rw [hqe]; rfl
    rw [ek] at e0
    have hl := h.lists e he
    have e0' : (entsD l).atKey (plLit (i : Int) (j : Int)) (sliceD (.slice none 0 0)) = sliceD e.2 := e0
    obtain rfl := sliceR_eq (sliceR_own hl) (e0' ▸ hv1)
    obtain rfl := sliceR_eq (sliceR_own hl) (e0' ▸ hv2)
    rw [hqe] at hl
    refine ⟨_, ?_, hrun2, .inr ⟨i, j, x, rfl, rfl, rfl, hq, hl⟩⟩
    rw [hx] at hrun1
    exact hrun1
/-- A resolution. -/
structure ResW (w : World) (B R T M1 M2 MR : Nat) (v : Value) (ds : List Nd) (ss : List Sc) (l : List Ent) : Prop where
  tree : TreeIs w B T M1 M2 v ds ss
  box : Row w R 93 [.pointer (some ⟨T, 0, none⟩), .map (some MR)]
  mean : MeanW w B MR ss l
  full : l.map Prod.fst = placed 0 ss
theorem ResW.below {w w' : World} {B R T M1 M2 MR : Nat} {v : Value} {ds : List Nd} {ss : List Sc} {l : List Ent} (h : ResW w B R T M1 M2 MR v ds ss l) (hb : Below w.heap.size w w') : ResW w' B R T M1 M2 MR v ds ss l :=
  ⟨h.tree.below hb, h.box.below hb h.box.lt, h.mean.below hb, h.full⟩
end Go.Proofs.YtppgdigcopkeiaaDoor
