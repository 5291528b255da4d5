/-
  All items of a graph with their places in order, what a fold into a map reads as, and worlds whose cells below a bound lie as they lay. Plain facts.
-/
import Derived.Test.YtlhlcdlkilpbhaaDoorWItem
import Derived.RangeFuncNested
import Derived.RangeFuncBox
namespace Go.Proofs.YtlhlcdlkilpbhaaDoor
open Go Go.RowKit Go.Maps
/-- All items with their places, scope i being the first, in order. -/
def placed (i : Nat) : List Sc → List (Nat × Nat × It)
  | [] => []
  | s :: r => (s.items.zipIdx.map fun p => (i, p.2, p.1)) ++ placed (i + 1) r
theorem placed_append (i : Nat) : ∀ (a b : List Sc), placed i (a ++ b) = placed i a ++ placed (i + a.length) b
  | [], b => by simp [placed]
  | s :: r, b => by
    simp only [List.cons_append, placed, placed_append (i + 1) r b, List.append_assoc, List.length_cons]
    rw [show i + 1 + r.length = i + (r.length + 1) from by omega]
theorem placed_flat (i : Nat) : ∀ ss : List Sc, (placed i ss).map (fun q => (q.1, q.2.2)) = flat i ss
  | [] => rfl
  | s :: r => by
    simp only [placed, flat, List.map_append, placed_flat (i + 1) r, List.map_map]
    congr 1
    have e : ∀ (l : List It) (n : Nat), (l.zipIdx n).map (fun p => (i, p.1)) = l.map fun x => (i, x) := by
      intro l
      induction l with
      | nil => intro n; rfl
      | cons x r ih => intro n; simp [List.zipIdx_cons, ih]
    exact e s.items 0
theorem mem_placed {i : Nat} {ss : List Sc} {q : Nat × Nat × It} : q ∈ placed i ss ↔ ∃ s, i ≤ q.1 ∧ ss[q.1 - i]? = some s ∧ s.items[q.2.1]? = some q.2.2 := by
  induction ss generalizing i with
  | nil => simp [placed]
  | cons s r ih =>
    obtain ⟨a, b, x⟩ := q
    simp only [placed, List.mem_append, List.mem_map, ih]
    constructor
    · rintro (⟨⟨y, j⟩, hm, he⟩ | ⟨t, h1, h2, h3⟩)
      · simp only [Prod.mk.injEq] at he
        obtain ⟨rfl, rfl, rfl⟩ := he
        exact ⟨s, Nat.le_refl _, by simp, by simpa using List.mem_zipIdx_iff_getElem?.1 hm⟩
      · refine ⟨t, by omega, ?_, h3⟩
        rw [show a - i = (a - (i + 1)) + 1 from by omega, List.getElem?_cons_succ]; exact h2
    · rintro ⟨t, h1, h2, h3⟩
      by_cases he : a = i
      · subst he
        left
        simp at h2
        subst h2
        exact ⟨(x, b), List.mem_zipIdx_iff_getElem?.2 (by simpa using h3), rfl⟩
      · right
        refine ⟨t, by omega, ?_, h3⟩
        rw [show a - i = (a - (i + 1)) + 1 from by omega, List.getElem?_cons_succ] at h2; exact h2
/-- Those ahead of the j-th item of the k-th scope. -/
def uptoP (ss : List Sc) (k j : Nat) : List (Nat × Nat × It) := placed 0 (ss.take k) ++ ((((ss[k]?.map Sc.items).getD []).take j).zipIdx.map fun p => (k, p.2, p.1))
theorem uptoP_zero (ss : List Sc) (k : Nat) : uptoP ss k 0 = placed 0 (ss.take k) := by simp [uptoP]
theorem uptoP_start (ss : List Sc) : uptoP ss 0 0 = [] := by simp [uptoP, placed]
theorem uptoP_next {ss : List Sc} {k j : Nat} {s : Sc} {x : It} (hs : ss[k]? = some s) (hx : s.items[j]? = some x) : uptoP ss k (j + 1) = uptoP ss k j ++ [(k, j, x)] := by
  have hj := (List.getElem?_eq_some_iff.1 hx).1
  simp only [uptoP, hs, Option.map_some, Option.getD_some]
  rw [List.take_add_one, hx, List.zipIdx_append]
  simp [List.length_take, Nat.min_eq_left (Nat.le_of_lt hj)]
theorem uptoP_scope {ss : List Sc} {k : Nat} {s : Sc} (hs : ss[k]? = some s) : uptoP ss k s.items.length = uptoP ss (k + 1) 0 := by
  have hk := (List.getElem?_eq_some_iff.1 hs).1
  rw [uptoP_zero, List.take_add_one, hs, placed_append]
  simp only [uptoP, hs, Option.map_some, Option.getD_some, List.take_length, Option.toList_some, placed, List.append_nil, List.length_take]
  rw [show 0 + min k ss.length = k from by omega]
theorem uptoP_all (ss : List Sc) : uptoP ss ss.length 0 = placed 0 ss := by rw [uptoP_zero, List.take_length]
theorem uptoP_prefix {ss : List Sc} {k j : Nat} {s : Sc} (hs : ss[k]? = some s) : uptoP ss k j <+: placed 0 ss := by
  have hk := (List.getElem?_eq_some_iff.1 hs).1
  have e : ss = ss.take k ++ s :: ss.drop (k + 1) := by
    have h1 := List.drop_eq_getElem_cons hk
    rw [(List.getElem?_eq_some_iff.1 hs).2] at h1
    rw [← h1, List.take_append_drop]
  have e2 : s.items.zipIdx = (s.items.take j).zipIdx ++ (s.items.drop j).zipIdx (0 + (s.items.take j).length) := by
    rw [← List.zipIdx_append, List.take_append_drop]
  refine ⟨(((s.items.drop j).zipIdx (0 + (s.items.take j).length)).map fun p => (k, p.2, p.1)) ++ placed (k + 1) (ss.drop (k + 1)), ?_⟩
  conv => rhs; rw [e, placed_append]
  simp only [placed, uptoP, hs, Option.map_some, Option.getD_some, List.length_take]
  rw [show 0 + min k ss.length = k from by omega, e2, List.map_append]
  simp only [List.append_assoc, List.length_take]
theorem uptoP_flat (ss : List Sc) (k j : Nat) : (uptoP ss k j).map (fun q => (q.1, q.2.2)) = upto ss k j := by
  have e : ∀ (l : List It) (n : Nat), (l.zipIdx n).map (fun p => (k, p.1)) = l.map fun x => (k, x) := by
    intro l
    induction l with
    | nil => intro n; rfl
    | cons x r ih => intro n; simp [List.zipIdx_cons, ih]
  simp only [uptoP, upto, List.map_append, placed_flat, List.map_map]
  congr 1
  exact e _ 0
/-- A list put into a map, each at its key. -/
def putInto {α : Type} (key : α → Lit) (val : α → DataW Unit) (D : DataW Unit) (l : List α) : DataW Unit := l.foldl (fun D q => D.put (key q) (val q)) D
theorem putInto_snoc {α : Type} (key : α → Lit) (val : α → DataW Unit) (D : DataW Unit) (l : List α) (x : α) : putInto key val D (l ++ [x]) = (putInto key val D l).put (key x) (val x) := by simp [putInto]
theorem putInto_isMap {α : Type} (key : α → Lit) (val : α → DataW Unit) : ∀ (l : List α) (D : DataW Unit), IsMap D → IsMap (putInto key val D l)
  | [], _, h => h
  | x :: r, D, h => putInto_isMap key val r (D.put (key x) (val x)) (h.put _ _)
theorem putInto_has {α : Type} (key : α → Lit) (val : α → DataW Unit) (hk : ∀ x, WideAt.IsKeyLit (key x)) (k : Lit) : ∀ (l : List α) (D : DataW Unit), IsMap D → (Maps.has (putInto key val D l) k = true ↔ Maps.has D k = true ∨ ∃ x ∈ l, key x = k)
  | [], D, h => by simp [putInto]
  | x :: r, D, h => by
    have ih := putInto_has key val hk k r (D.put (key x) (val x)) (h.put _ _)
    show Maps.has (putInto key val (D.put (key x) (val x)) r) k = true ↔ _
    rw [ih]
    by_cases he : key x = k
    · rw [← he, Maps.has_put_same h (hk x)]
      exact ⟨fun _ => .inr ⟨x, List.mem_cons_self, rfl⟩, fun _ => .inl rfl⟩
    · rw [Maps.has_put_other (fun e => he e.symm)]
      constructor
      · rintro (h1 | ⟨y, hy, e⟩)
        · exact .inl h1
        · exact .inr ⟨y, List.mem_cons_of_mem _ hy, e⟩
      · rintro (h1 | ⟨y, hy, e⟩)
        · exact .inl h1
        · rcases List.mem_cons.1 hy with rfl | hy
          · exact absurd e he
          · exact .inr ⟨y, hy, e⟩
theorem putInto_other {α : Type} (key : α → Lit) (val : α → DataW Unit) (k : Lit) (z : DataW Unit) : ∀ (l : List α) (D : DataW Unit), (∀ x ∈ l, key x ≠ k) → (putInto key val D l).atKey k z = D.atKey k z
  | [], D, h => rfl
  | x :: r, D, h => by
    show (putInto key val (D.put (key x) (val x)) r).atKey k z = _
    rw [putInto_other key val k z r _ (fun y hy => h y (List.mem_cons_of_mem _ hy))]
    exact Maps.atKey_put_other (fun e => h x List.mem_cons_self e.symm) _ _
/-- Where the keys are all different, each key reads as what was put there. -/
theorem putInto_at {α : Type} (key : α → Lit) (val : α → DataW Unit) (hk : ∀ x, WideAt.IsKeyLit (key x)) (z : DataW Unit) : ∀ (l : List α) (D : DataW Unit), IsMap D → (l.map key).Nodup → ∀ x ∈ l, (putInto key val D l).atKey (key x) z = val x
  | [], D, h, hn, x, hx => by simp at hx
  | y :: r, D, h, hn, x, hx => by
    rw [List.map_cons, List.nodup_cons] at hn
    show (putInto key val (D.put (key y) (val y)) r).atKey (key x) z = _
    rcases List.mem_cons.1 hx with rfl | hx
    · rw [putInto_other key val (key x) z r _ (fun u hu e => hn.1 (e ▸ List.mem_map_of_mem hu))]
      exact Maps.atKey_put_same h (hk x) _ _
    · exact putInto_at key val hk z r _ (h.put _ _) hn.2 x hx
/-- Blocks of cells below n lie as they lay. -/
structure CellsKept (n : Nat) (w w' : World) : Prop where
  size : w.heap.size ≤ w'.heap.size
  block : ∀ g vs t fr, g < n → w.heap[g]? = some (.cells vs t fr) → w'.heap[g]? = some (.cells vs t fr)
theorem CellsKept.refl (n : Nat) (w : World) : CellsKept n w w := ⟨Nat.le_refl _, fun _ _ _ _ _ h => h⟩
theorem CellsKept.trans {n : Nat} {a b c : World} (h : CellsKept n a b) (k : CellsKept n b c) : CellsKept n a c := ⟨Nat.le_trans h.size k.size, fun g vs t fr hg hh => k.block g vs t fr hg (h.block g vs t fr hg hh)⟩
theorem CellsKept.of_below {n : Nat} {a b : World} (h : Below n a b) : CellsKept n a b := ⟨h.size, fun g _ _ _ hg hh => (h.block g hg).trans hh⟩
theorem CellsKept.mono {n m : Nat} {a b : World} (h : CellsKept n a b) (hm : m ≤ n) : CellsKept m a b := ⟨h.size, fun g vs t fr hg hh => h.block g vs t fr (by omega) hh⟩
theorem CellsKept.putObj {n : Nat} (W : World) (l : Nat) (o o' : Obj) (h : W.heap[l]? = some o) (ho : o.isCells = false) : CellsKept n W (W.putObj l o') :=
  ⟨(grownBy_putObj' W l o').size, fun g _ _ _ _ hh => ((grownBy_putObj' W l o').block g (Array.getElem?_eq_some_iff.1 hh).1 (fun e => by cases e; rw [h] at hh; cases hh; cases ho)).trans hh⟩
theorem CellsKept.cell {n : Nat} {w w' : World} (h : CellsKept n w w') {b o : Nat} {v : Value} (hb : b < n) (hc : w.cell? ⟨b, o, none⟩ = some v) : w'.cell? ⟨b, o, none⟩ = some v := by
  obtain ⟨cs, t, fr, hh⟩ : ∃ cs t fr, w.heap[b]? = some (.cells cs t fr) := by
    unfold World.cell? at hc
    split at hc <;> first | (rename_i e; exact ⟨_, _, _, e⟩) | cases hc
  have := h.block b cs t fr hb hh
  unfold World.cell? at hc ⊢
  rw [hh] at hc
  rw [this]
  exact hc
theorem HoldsItems.kept {n : Nat} {w w' : World} {oa : Option Addr} {xs : List It} (h : HoldsItems w oa xs) (hk : CellsKept n w w') (hn : w.heap.size ≤ n) : HoldsItems w' oa xs := by
  rcases h with h | ⟨b, off, h1, h2, h3⟩
  · exact .inl h
  · refine .inr ⟨b, off, h1, Nat.lt_of_lt_of_le h2 hk.size, fun i x hx => ?_⟩
    obtain ⟨k0, k1, k2⟩ := h3 i x hx
    exact ⟨hk.cell (by omega) k0, hk.cell (by omega) k1, hk.cell (by omega) k2⟩
theorem Tree.kept {n : Nat} {w w' : World} {B T M1 M2 : Nat} {v : Value} {ds : List Nd} (h : Tree w B T M1 M2 v ds) (hk : CellsKept n w w') (hn : w.heap.size ≤ n) : Tree w' B T M1 M2 v ds :=
  h.same fun g _ ⟨vs, t, hh⟩ => (hk.block g vs t (0, 0) (Nat.lt_of_lt_of_le (Array.getElem?_eq_some_iff.1 hh).1 hn) hh).trans hh.symm
end Go.Proofs.YtlhlcdlkilpbhaaDoor
