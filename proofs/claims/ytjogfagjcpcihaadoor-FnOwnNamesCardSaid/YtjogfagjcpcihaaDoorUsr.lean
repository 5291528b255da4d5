/-
  Who uses a declaration, as plain data; a map of users in memory, told by what look-ups answer. Plain facts.
-/
import Derived.Test.YtjogfagjcpcihaaDoorJE
import Derived.Test.YtjogfagjcpcihaaDoorWSpecItems
import Derived.Test.YtjogfagjcpcihaaDoorMapEnt
import Derived.RangeFuncWrites
namespace Go.Proofs.YtjogfagjcpcihaaDoor
open Go Go.RowKit Go.Maps
/-- How often an item means a place, among the first k that it means: its own place, once for each time. -/
def usesK (ss : List Sc) (q : Nat × Nat × It) (k : Nat) (d : Int × Int) : List (Int × Int) := ((meanIt ss q).take k).filterMap fun e => if e = d then some (plOf q) else none
/-- The places of those of a list but declarations that mean a place, once for each time. -/
def usesF (ss : List Sc) (l : List (Nat × Nat × It)) (d : Int × Int) : List (Int × Int) := l.flatMap fun q => if q.2.2.kind = 1 then [] else usesK ss q (meanIt ss q).length d
theorem plLit_is (a b : Int) : WideAt.IsKeyLit (plLit a b) := trivial
theorem usesK_zero (ss : List Sc) (q : Nat × Nat × It) (d : Int × Int) : usesK ss q 0 d = [] := rfl
theorem usesK_next {ss : List Sc} {q : Nat × Nat × It} {k : Nat} {e : Int × Int} (h : (meanIt ss q)[k]? = some e) (d : Int × Int) : usesK ss q (k + 1) d = usesK ss q k d ++ if d = e then [plOf q] else [] := by
  unfold usesK
  rw [List.take_add_one, h, List.filterMap_append]
  congr 1
  by_cases he : e = d
  · subst he; simp
  · rw [if_neg (fun h => he h.symm)]; simp [he]
theorem usesF_snoc (ss : List Sc) (l : List (Nat × Nat × It)) (q : Nat × Nat × It) (d : Int × Int) : usesF ss (l ++ [q]) d = usesF ss l d ++ if q.2.2.kind = 1 then [] else usesK ss q (meanIt ss q).length d := by
  unfold usesF
  rw [List.flatMap_append]
  congr 1
  simp
theorem usesK_length (ss : List Sc) (q : Nat × Nat × It) (k : Nat) (d : Int × Int) : (usesK ss q k d).length ≤ (meanIt ss q).length := Nat.le_trans (List.length_filterMap_le _ _) (List.length_take_le' _ _)
theorem usesF_length {ss : List Sc} (hv : Valid ss) (d : Int × Int) : ∀ l : List (Nat × Nat × It), (usesF ss l d).length ≤ l.length * 25
  | [] => Nat.zero_le _
  | q :: r => by
    have ih := usesF_length hv d r
    have h1 := usesK_length ss q (meanIt ss q).length d
    have h2 := meanIt_length hv q
    show ((if q.2.2.kind = 1 then [] else usesK ss q (meanIt ss q).length d) ++ usesF ss r d).length ≤ _
    rw [List.length_append, List.length_cons]
    split
    · simp; omega
    · omega
/-- The items but declarations that mean a place alone. -/
def aloneB (ss : List Sc) (d : Int × Int) (q : Nat × Nat × It) : Bool := decide (q.2.2.kind ≠ 1) && decide (meanIt ss q = [d])
def usersP (ss : List Sc) (d : Int × Int) : List (Int × Int) := filtL (aloneB ss d) (placed 0 ss)
theorem usersP_length (ss : List Sc) (d : Int × Int) : (usersP ss d).length ≤ (placed 0 ss).length := filtL_length _ _
theorem cells_of_grown' {w w' : World} {M n : Nat} {D : DataW Unit} (hg : w.grownBy w' (some M)) (h : w.ownsMap Tryd.prog 32 sliceR M n D) : CellsKept w.heap.size w w' :=
  ⟨hg.size, fun g vs t fr _ hh => by
    refine (hg.block g (Array.getElem?_eq_some_iff.1 hh).1 (fun e => ?_)).trans hh
    cases e
    obtain ⟨es, clock, h1, _⟩ := h
    rw [h1] at hh; cases hh⟩
/-- Is a declaration at a place? -/
def declOk (ss : List Sc) (a b : Int) : Prop := Valid ss ∧ ∃ x, itemAtP ss a b = some x ∧ x.kind = 1
/-- What is told of the rows of a map of users. -/
structure UsrG (w : World) (B : Nat) (A : List Nat) (dl : List (Int × Int)) (f : Int × Int → List (Int × Int)) (D : DataW Unit) (g : Int × Int → Value) : Prop where
  has : ∀ a b, (Lit.int .i64 a).wf = true → (Lit.int .i64 b).wf = true → (Maps.has D (plLit a b) = true ↔ (a, b) ∈ dl)
  look : ∀ a b, (a, b) ∈ dl → ∀ z, D.atKey (plLit a b) z = sliceD (g (a, b))
  rows : ∀ p ∈ dl, w.ownsRow B 32 2 (g p) (f p).length (placeCells (f p))
  apart : ∀ p ∈ dl, ∀ q ∈ dl, p ≠ q → (g p).ownBlock = none ∨ (g p).ownBlock ≠ (g q).ownBlock
  far : ∀ p ∈ dl, ∀ b ∈ A, (g p).ownBlock ≠ some b
  small : ∀ p ∈ dl, (Lit.int .i64 p.1).wf = true ∧ (Lit.int .i64 p.2).wf = true
def UsrW (w : World) (B MU n : Nat) (A : List Nat) (dl : List (Int × Int)) (f : Int × Int → List (Int × Int)) : Prop :=
  ∃ (D : DataW Unit) (g : Int × Int → Value), w.ownsMap Tryd.prog 32 sliceR MU n D ∧ IsMap D ∧ UsrG w B A dl f D g
theorem UsrW.lt {w : World} {B MU n : Nat} {A : List Nat} {dl : List (Int × Int)} {f : Int × Int → List (Int × Int)} (h : UsrW w B MU n A dl f) : MU < w.heap.size := by
  obtain ⟨D, g, ⟨es, clock, hh, _⟩, _⟩ := h
  exact (Array.getElem?_eq_some_iff.1 hh).1
theorem usr_nil {w : World} {B MU : Nat} {A : List Nat} {f : Int × Int → List (Int × Int)} (h : w.ownsMap Tryd.prog 32 sliceR MU 0 (.map [])) : UsrW w B MU 0 A [] f :=
  ⟨.map [], fun _ => .slice none 0 0, h, nilMap, ⟨(fun a b _ _ => by rw [has_nil]; simp), (fun _ _ h => by cases h), (fun _ h => by cases h), (fun _ h => by cases h), (fun _ h => by cases h), (fun _ h => by cases h)⟩⟩
theorem UsrW.kept {w w' : World} {B MU n : Nat} {A : List Nat} {dl : List (Int × Int)} {f : Int × Int → List (Int × Int)} (h : UsrW w B MU n A dl f) (hk : CellsKept w.heap.size w w') (hs : w'.heap[MU]? = w.heap[MU]?) : UsrW w' B MU n A dl f := by
  obtain ⟨D, g, h1, h2, h3⟩ := h
  exact ⟨D, g, ownsMap_same h1 hs, h2, h3.has, h3.look, fun p hp => ownsRow_cells (h3.rows p hp) hk, h3.apart, h3.far, h3.small⟩
theorem UsrW.below {w w' : World} {B MU n : Nat} {A : List Nat} {dl : List (Int × Int)} {f : Int × Int → List (Int × Int)} (h : UsrW w B MU n A dl f) (hb : Below w.heap.size w w') : UsrW w' B MU n A dl f :=
  h.kept (.of_below hb) (hb.block _ h.lt)
theorem UsrW.mono {w : World} {B MU n m : Nat} {A : List Nat} {dl : List (Int × Int)} {f : Int × Int → List (Int × Int)} (h : UsrW w B MU n A dl f) (hn : n ≤ m) : UsrW w B MU m A dl f := by
  obtain ⟨D, g, ⟨es, clock, hh, F, hs, r⟩, h2, h3⟩ := h
  exact ⟨D, g, ⟨es, clock, hh, F, Nat.le_trans hs hn, r⟩, h2, h3⟩
theorem UsrW.same {w : World} {B MU n : Nat} {A : List Nat} {dl : List (Int × Int)} {f f' : Int × Int → List (Int × Int)} (h : UsrW w B MU n A dl f) (hf : ∀ p ∈ dl, f p = f' p) : UsrW w B MU n A dl f' := by
  obtain ⟨D, g, h1, h2, h3⟩ := h
  exact ⟨D, g, h1, h2, h3.has, h3.look, fun p hp => by rw [← hf p hp]; exact h3.rows p hp, h3.apart, h3.far, h3.small⟩
/-- Blocks that are newer than all rows are apart from them. -/
theorem UsrW.away {w : World} {B MU n : Nat} {A A' : List Nat} {dl : List (Int × Int)} {f : Int × Int → List (Int × Int)} (h : UsrW w B MU n A dl f) (hA : ∀ b ∈ A', b ∈ A ∨ w.heap.size ≤ b) : UsrW w B MU n A' dl f := by
  obtain ⟨D, g, h1, h2, h3⟩ := h
  refine ⟨D, g, h1, h2, h3.has, h3.look, h3.rows, h3.apart, fun p hp b hb e => ?_, h3.small⟩
  rcases hA b hb with h4 | h4
  · exact h3.far p hp b h4 e
  · have := ((h3.rows p hp).lt b e).2; omega
/-- A declaration more, whose list is empty. -/
theorem usr_new {w : World} {B MU n : Nat} {A : List Nat} {dl : List (Int × Int)} {f : Int × Int → List (Int × Int)} (h : UsrW w B MU n A dl f) (hn : n < 100000) {a b : Int} (ha : (Lit.int .i64 a).wf = true) (hb : (Lit.int .i64 b).wf = true) (hf : f (a, b) = []) :
    ∃ w', (Instr.mapUpdate 139 (.map (some MU)) (.agg #[.int .i64 a, .int .i64 b]) (.slice none 0 0)).run Tryd.prog w = .ok () w' ∧ UsrW w' B MU (n + 1) A (dl ++ [(a, b)]) f ∧ w.grownBy w' (some MU) := by
  obtain ⟨D, g, h1, h2, h3⟩ := h
  obtain ⟨w', hrun, hown, hg⟩ := h1.update (t := 139) (e := 46) placeLaw Tryd.underlying139 (by unfold maxLen; omega) (pl_key ha hb) (show sliceR (.slice none 0 0) = some (sliceD (.slice none 0 0), []) from rfl)
  have hck : CellsKept w.heap.size w w' := cells_of_grown' hg h1
  have hkey : ∀ c d, (Lit.int .i64 c).wf = true → (Lit.int .i64 d).wf = true → (c, d) ≠ (a, b) → plLit c d ≠ plLit a b := fun c d hc hd hne e => by
    obtain ⟨e1, e2⟩ := plLit_inj hc hd ha hb e
    exact hne (by rw [e1, e2])
  refine ⟨w', hrun, ⟨_, fun p => if p = (a, b) then .slice none 0 0 else g p, hown, h2.put _ _, ⟨fun c d hc hd => ?_, fun c d hm z => ?_, fun p hp => ?_, fun p hp q hq hne => ?_, fun p hp c hc => ?_, fun p hp => ?_⟩⟩, hg⟩
  · by_cases he : (c, d) = (a, b)
    · cases he
      rw [Maps.has_put_same h2 (plLit_is _ _)]
      simp
    · rw [Maps.has_put_other (hkey c d hc hd he), h3.has c d hc hd]
      simp [he]
  · (try dsimp only)
    by_cases he : (c, d) = (a, b)
    · rw [if_pos he]
      cases he
      exact Maps.atKey_put_same h2 (plLit_is _ _) _ _
    · have hm' : (c, d) ∈ dl := by
        rcases List.mem_append.1 hm with h | h
        · exact h
        · exact absurd (List.mem_singleton.1 h) he
      have hw := h3.small _ hm'
      rw [if_neg he, Maps.atKey_put_other (hkey c d hw.1 hw.2 he)]
      exact h3.look c d hm' z
  · (try dsimp only)
    by_cases he : p = (a, b)
    · rw [if_pos he, he, hf]
      exact World.ownsRow_nil _ _ _ _
    · rw [if_neg he]
      rcases List.mem_append.1 hp with h | h
      · exact ownsRow_cells (h3.rows p h) hck
      · exact absurd (List.mem_singleton.1 h) he
  · (try dsimp only)
    by_cases he : p = (a, b)
    · rw [if_pos he]; exact .inl rfl
    · rw [if_neg he]
      have hp' : p ∈ dl := by
        rcases List.mem_append.1 hp with h | h
        · exact h
        · exact absurd (List.mem_singleton.1 h) he
      by_cases he2 : q = (a, b)
      · rw [if_pos he2]
        cases hb2 : (g p).ownBlock with
        | none => exact .inl rfl
        | some r => exact .inr (fun e => by cases e)
      · rw [if_neg he2]
        rcases List.mem_append.1 hq with h | h
        · exact h3.apart p hp' q h hne
        · exact absurd (List.mem_singleton.1 h) he2
  · (try dsimp only)
    by_cases he : p = (a, b)
    · rw [if_pos he]; intro e; cases e
    · rw [if_neg he]
      rcases List.mem_append.1 hp with h | h
      · exact h3.far p h c hc
      · exact absurd (List.mem_singleton.1 h) he
  · rcases List.mem_append.1 hp with h | h
    · exact h3.small p h
    · rw [List.mem_singleton.1 h]; exact ⟨ha, hb⟩
/-- What a map of users answers. -/
theorem usr_look {w : World} {B MU n : Nat} {A : List Nat} {dl : List (Int × Int)} {f : Int × Int → List (Int × Int)} (h : UsrW w B MU n A dl f) {a b : Int} (ha : (Lit.int .i64 a).wf = true) (hb : (Lit.int .i64 b).wf = true) :
    ∃ u, (Instr.lookup 139 (.map (some MU)) (.agg #[.int .i64 a, .int .i64 b]) true).run Tryd.prog w = .ok (.tuple #[u, .bool (decide ((a, b) ∈ dl))]) w ∧
      (((a, b) ∉ dl ∧ u = .slice none 0 0) ∨ ((a, b) ∈ dl ∧ w.ownsRow B 32 2 u (f (a, b)).length (placeCells (f (a, b))))) := by
  obtain ⟨D, g, h1, h2, h3⟩ := h
  obtain ⟨v1, ps1, hrun1, hv1⟩ := h1.look_ok (t := 139) (e := 46) placeLaw Tryd.underlying139 (zeroSlice _) (by rfl) (pl_key ha hb)
  have hb1 : Maps.has D (plLit a b) = decide ((a, b) ∈ dl) := Bool.eq_iff_iff.2 (by rw [h3.has a b ha hb, decide_eq_true_eq])
  change _ = Result.ok (Value.tuple #[v1, .bool (Maps.has D (plLit a b))]) w at hrun1
  rw [hb1] at hrun1
  by_cases hm : (a, b) ∈ dl
  · have e0 := h3.look a b hm (sliceD (.slice none 0 0))
    obtain rfl := sliceR_eq (sliceR_own (h3.rows _ hm)) (e0 ▸ hv1)
    exact ⟨_, hrun1, .inr ⟨hm, h3.rows _ hm⟩⟩
  · have hz : sliceR (.slice none 0 0) = some (sliceD (.slice none 0 0), []) := rfl
    have e0 : D.atKey (plLit a b) (sliceD (.slice none 0 0)) = sliceD (.slice none 0 0) := Maps.atKey_of_not_has (by rw [hb1]; simpa using hm) _
    obtain rfl := sliceR_eq hz (e0 ▸ hv1)
    exact ⟨_, hrun1, .inl ⟨hm, rfl⟩⟩
/-- What a user more leaves. -/
structure UsrPush (w w2 : World) (B MU : Nat) (A : List Nat) : Prop where
  cells : CellsKept B w w2
  below : ∀ b, b ≤ MU → b ≤ B → Below b w w2
  rows : ∀ b ∈ A, ∀ t vs, Row w b t vs → Row w2 b t vs
  keeps : ∀ b, MU < b → KeepsFrom b w w2
/-- A user more of a declaration: what is looked up, the append and the store. -/
theorem usr_push {w : World} {B MU n : Nat} {A : List Nat} {dl : List (Int × Int)} {f : Int × Int → List (Int × Int)} (h : UsrW w B MU n A dl f) (hn : n < 100000) (hB : B ≤ w.heap.size) (hA : ∀ b ∈ A, b < w.heap.size) {a b : Int} (hp : (a, b) ∈ dl) (hl : (f (a, b)).length < 1000000) (x y : Int) (ty : TypeId) :
    ∃ u st v' w1 w2, (∀ W', W'.heap[MU]? = w.heap[MU]? → (Instr.mapEntry 139 (.map (some MU)) (.agg #[.int .i64 a, .int .i64 b])).run Tryd.prog W' = .ok (.tuple #[u, st]) W') ∧
      (Builtin.append_ #[46, 46] ty #[u, .slice (some ⟨w.heap.size, 0, none⟩) 1 1]).run Tryd.prog (w.alloc (.cells #[.int .i64 x, .int .i64 y] 32)) = .ok v' w1 ∧
      (Instr.entryStore 139 (.map (some MU)) st v').run Tryd.prog w1 = .ok () w2 ∧
      UsrW w2 B MU (n + 1) A dl (fun p => if p = (a, b) then f (a, b) ++ [(x, y)] else f p) ∧
      UsrPush w w2 B MU A := by
  obtain ⟨D, g, h1, h2, h3⟩ := h
  have hw := h3.small _ hp
  have hMU := h1.lt
  have hrow := h3.rows _ hp
  obtain ⟨v', w1, hrun1, hown1, hg1, hbl1⟩ := append_place_at hrow x y hl hB ty
  have hne : some MU ≠ (g (a, b)).ownBlock := fun e => by
    obtain ⟨_, h5 | ⟨r, cap, cur, hv, _, hh, _⟩⟩ := hrow
    · rw [h5.1] at e; cases e
    · rw [hv] at e
      cases e
      obtain ⟨es, clock, hm, _⟩ := h1
      rw [hm] at hh; cases hh
  have hal := (Below.refl w.heap.size w).alloc (Nat.le_refl _) (.cells #[.int .i64 x, .int .i64 y] 32)
  have hMU1 : w1.heap[MU]? = w.heap[MU]? := (hg1.block MU (Nat.lt_of_lt_of_le hMU hal.size) hne).trans (hal.block MU hMU)
  have h1' := ownsMap_same h1 hMU1
  obtain ⟨w2, hrun2, hown2, hg2⟩ := h1'.update (t := 139) (e := 46) placeLaw Tryd.underlying139 (by unfold maxLen; omega) (pl_key hw.1 hw.2) (sliceR_own hown1)
  have hck2 : CellsKept w1.heap.size w1 w2 := cells_of_grown' hg2 h1'
  have hblk : ∀ r, (g (a, b)).ownBlock = some r → B ≤ r ∧ r < w.heap.size ∧ r ∉ A ∧ ∃ cur, w.heap[r]? = some (.cells cur 32 (0, 0)) := fun r hr => by
    refine ⟨(hrow.lt r hr).1, (hrow.lt r hr).2, fun hm => h3.far _ hp r hm hr, ?_⟩
    obtain ⟨_, h5 | ⟨r', cap, cur, hv, _, hh, _⟩⟩ := hrow
    · rw [h5.1] at hr; cases hr
    · rw [hv] at hr
      cases hr
      exact ⟨cur, hh⟩
  have hkey : ∀ c d, (Lit.int .i64 c).wf = true → (Lit.int .i64 d).wf = true → (c, d) ≠ (a, b) → plLit c d ≠ plLit a b := fun c d hc hd hne e => by
    obtain ⟨e1, e2⟩ := plLit_inj hc hd hw.1 hw.2 e
    exact hne (by rw [e1, e2])
  obtain ⟨u, st, hent, hsto⟩ := entry_same h1 hw.1 hw.2 ((h3.has a b hw.1 hw.2).2 hp)
  have hu : u = g (a, b) := by
    obtain ⟨v2, ps2, hrun3, hv2⟩ := h1.lookup (t := 139) (e := 46) placeLaw Tryd.underlying139 (zeroSlice _) (by rfl) (pl_key hw.1 hw.2)
    have e0 := h3.look a b hp (sliceD (.slice none 0 0))
    obtain rfl := sliceR_eq (sliceR_own hrow) (e0 ▸ hv2)
    have h5 := (hent w rfl).2
    rw [hrun3] at h5
    cases h5
    rfl
  subst hu
  refine ⟨g (a, b), st, v', w1, w2, fun W' hW => (hent W' hW).1, hrun1, hsto w1 v' w2 hMU1 hrun2, ?_, ⟨⟨Nat.le_trans hal.size (Nat.le_trans hg1.size hg2.size), fun r vs t fr hr hh => hck2.block r vs t fr (Nat.lt_of_lt_of_le (Array.getElem?_eq_some_iff.1 hh).1 (Nat.le_trans hal.size hg1.size)) ((hg1.block r (Nat.lt_of_lt_of_le (Array.getElem?_eq_some_iff.1 hh).1 hal.size) (fun e => by have := (hblk r e.symm).1; omega)).trans ((hal.block r (Array.getElem?_eq_some_iff.1 hh).1).trans hh))⟩, fun b hb1 hb2 => ((hal.mono (Nat.le_trans hb2 hB)).trans ((Below.refl b _).grown hg1 (Nat.le_trans (Nat.le_trans hb2 hB) hal.size) (fun r e => Nat.le_trans hb2 (hblk r e).1))).trans ((Below.refl b _).grown hg2 (Nat.le_trans (Nat.le_trans (Nat.le_trans hb2 hB) hal.size) hg1.size) (fun r e => by cases e; exact hb1)), fun b hb t vs hr => hck2.block b _ t _ (Nat.lt_of_lt_of_le hr.lt (Nat.le_trans hal.size hg1.size)) ((hg1.block b (Nat.lt_of_lt_of_le hr.lt hal.size) (fun e => (hblk b e.symm).2.2.1 hb)).trans ((hal.block b hr.lt).trans hr)), fun b hb => ⟨Nat.le_trans hal.size (Nat.le_trans hg1.size hg2.size), fun r o hr ho hc => (hg2.block r (Nat.lt_of_lt_of_le (Array.getElem?_eq_some_iff.1 ho).1 (Nat.le_trans hal.size hg1.size)) (fun e => by cases e; omega)).trans ((hg1.block r (Nat.lt_of_lt_of_le (Array.getElem?_eq_some_iff.1 ho).1 hal.size) (fun e => by obtain ⟨_, _, _, cur, h9⟩ := hblk r e.symm; rw [ho] at h9; cases h9; cases hc)).trans ((hal.block r (Array.getElem?_eq_some_iff.1 ho).1).trans ho))⟩⟩⟩
  have hnew : ∀ p ∈ dl, p ≠ (a, b) → w1.ownsRow B 32 2 (g p) (f p).length (placeCells (f p)) := fun p hpm hpn =>
    (ownsRow_below (h3.rows p hpm) hal).kept hg1 (h3.apart p hpm _ hp hpn)
  have hvfar : ∀ p ∈ dl, p ≠ (a, b) → ∀ r, (g p).ownBlock = some r → v'.ownBlock ≠ some r := fun p hpm hpn r hr e => by
    rcases hbl1 with h5 | h5
    · rw [h5] at e
      rcases h3.apart p hpm _ hp hpn with h6 | h6
      · rw [h6] at hr; cases hr
      · exact h6 (hr.trans e.symm)
    · rw [h5] at e
      cases e
      have := ((h3.rows p hpm).lt _ hr).2
      omega
  refine ⟨_, fun p => if p = (a, b) then v' else g p, hown2, h2.put _ _, ⟨fun c d hc hd => ?_, fun c d hm z => ?_, fun p hpm => ?_, fun p hpm q hqm hpq => ?_, fun p hpm c hc => ?_, h3.small⟩⟩
  · by_cases he : (c, d) = (a, b)
    · cases he
      rw [Maps.has_put_same h2 (plLit_is _ _)]
      simp [hp]
    · rw [Maps.has_put_other (hkey c d hc hd he), h3.has c d hc hd]
  · (try dsimp only)
    by_cases he : (c, d) = (a, b)
    · rw [if_pos he]
      cases he
      exact Maps.atKey_put_same h2 (plLit_is _ _) _ _
    · have hw2 := h3.small _ hm
      rw [if_neg he, Maps.atKey_put_other (hkey c d hw2.1 hw2.2 he)]
      exact h3.look c d hm z
  · (try dsimp only)
    by_cases he : p = (a, b)
    · rw [if_pos he, if_pos he, List.length_append, placeCells_snoc]
      exact ownsRow_cells hown1 hck2
    · rw [if_neg he, if_neg he]
      exact ownsRow_cells (hnew p hpm he) hck2
  · (try dsimp only)
    by_cases he : p = (a, b)
    · rw [if_pos he, if_neg (fun e => hpq (he.trans e.symm))]
      cases hb2 : v'.ownBlock with
      | none => exact .inl rfl
      | some r => exact .inr (fun e => hvfar q hqm (fun e2 => hpq (he.trans e2.symm)) r e.symm hb2)
    · rw [if_neg he]
      by_cases he2 : q = (a, b)
      · rw [if_pos he2]
        cases hb2 : (g p).ownBlock with
        | none => exact .inl rfl
        | some r => exact .inr (fun e => hvfar p hpm he r hb2 e.symm)
      · rw [if_neg he2]
        exact h3.apart p hpm q hqm hpq
  · (try dsimp only)
    by_cases he : p = (a, b)
    · rw [if_pos he]
      intro e
      rcases hbl1 with h5 | h5
      · rw [h5] at e
        exact h3.far _ hp c hc e
      · rw [h5] at e
        cases e
        have := hA _ hc
        omega
    · rw [if_neg he]
      exact h3.far p hpm c hc
end Go.Proofs.YtjogfagjcpcihaaDoor
