/-
  The walks of the laws' markItemS, markScopeS, markGraph, heldItemS, heldScopeS and heldGraph over a graph that a call handed back: once marked, it is found marked. Condition: the graph's memory is the call's own.
-/
import Derived.Test.YtjogfagjcpcihaaDoorJB
import Derived.Test.YtjogfagjcpcihaaDoorJA
import Derived.Lib.QuietBelow
import Derived.BigQuiet
import Derived.ChangeSame
import Derived.ProofKit
import Derived.OpenShut
namespace Go.Proofs.YtjogfagjcpcihaaDoor
open Go Go.RowKit
/-- What markText answers. -/
def markD : Nat → Nat → ByteArray → ByteArray
  | 0, _, out => out
  | f + 1, k, out => if k = 0 then out else markD f (k / 10) (strOfNums [48 + (k : Int) % 10] ++ out)
def markStr (n : Nat) : ByteArray := ByteArray.mk #[109] ++ markD n n ByteArray.empty
theorem markD_zero (f : Nat) (out : ByteArray) : markD f 0 out = out := by cases f <;> simp [markD]
theorem markD_size : ∀ (f k : Nat) (out : ByteArray), (markD f k out).size ≤ out.size + f
  | 0, _, _ => Nat.le_refl _
  | f + 1, k, out => by
    unfold markD
    split
    · omega
    · have h := markD_size f (k / 10) (strOfNums [48 + (k : Int) % 10] ++ out)
      rw [ByteArray.size_append, strOfNums_size] at h
      simp only [List.length_cons, List.length_nil] at h
      omega
/-- Items that are marked from k on. -/
def MarkedIt (w : World) (v : Value) (n k : Nat) : Prop := ∃ oa cap, v = .slice oa n cap ∧ (n = 0 ∨ ∃ g us, oa = some ⟨g, 0, none⟩ ∧ Row w g 42 us ∧
  ∀ i, i < n → us[i * 3]? = some (.int .i64 ((k : Int) + 3 * (i : Int))) ∧ us[i * 3 + 1]? = some (.string (markStr (k + 3 * i + 1))) ∧ us[i * 3 + 2]? = some (.int .i64 ((k : Int) + 3 * (i : Int) + 2)))
theorem MarkedIt.grown {w w' : World} {v : Value} {n k : Nat} {row : Option Nat} (h : MarkedIt w v n k) (hg : w.grownBy w' row) (hne : v.ownBlock = none ∨ v.ownBlock ≠ row) : MarkedIt w' v n k := by
  obtain ⟨oa, cap, rfl, h | ⟨g, us, rfl, h2, h3⟩⟩ := h
  · exact ⟨oa, cap, rfl, .inl h⟩
  · refine ⟨_, cap, rfl, .inr ⟨g, us, rfl, h2.grown hg ?_, h3⟩⟩
    rcases hne with h | h
    · simp [Value.ownBlock] at h
    · exact h
theorem MarkedIt.set {w : World} {v x : Value} {n k g i : Nat} {cells : List Value} (h : MarkedIt w v n k) (hr : Row w g 40 cells) : MarkedIt (w.setCell ⟨g, i, none⟩ x) v n k := by
  obtain ⟨oa, cap, rfl, h | ⟨gi, us, rfl, h2, h3⟩⟩ := h
  · exact ⟨oa, cap, rfl, .inl h⟩
  · exact ⟨_, cap, rfl, .inr ⟨gi, us, rfl, h2.other (a := ⟨g, i, none⟩) (hr.neq h2 (by decide)) x, h3⟩⟩
theorem MarkedIt.below {w w' : World} {v : Value} {n k : Nat} (h : MarkedIt w v n k) (hb : Below w.heap.size w w') : MarkedIt w' v n k := by
  obtain ⟨oa, cap, rfl, h | ⟨g, us, rfl, h2, h3⟩⟩ := h
  · exact ⟨oa, cap, rfl, .inl h⟩
  · exact ⟨_, cap, rfl, .inr ⟨g, us, rfl, h2.below hb h2.lt, h3⟩⟩
theorem grownBy_of_turns {w w' : World} {g : Nat} (h : Turns w w' g g) : w.grownBy w' (some g) := ⟨h.os, h.tape, h.output, h.size, fun k hk hne => h.rest k hk (fun e => hne (by rw [e])) (fun e => hne (by rw [e]))⟩
/-- While a graph's scopes are marked. -/
structure MarkRun (w0 w : World) (B g : Nat) (us : List Sc) (hs : List Value) (k j : Nat) (cells : List Value) : Prop where
  row : Row w g 40 cells
  len : 2 * us.length ≤ cells.length
  heads : ∀ i u, hs[i]? = some u → cells[i * 2 + 1]? = some u
  done : ∀ i s u, i < j → us[i]? = some s → hs[i]? = some u → cells[i * 2]? = some (.int .i64 ((k : Int) + (marks (us.take i) : Int))) ∧ MarkedIt w u s.items.length (k + marks (us.take i) + 1)
  todo : ∀ i s u, j ≤ i → us[i]? = some s → hs[i]? = some u → ∃ xs, w.ownsRow B 42 3 u s.items.length xs
  below : Below B w0 w
  keep : ∀ (T : Nat) (t : TypeId) (vs : List Value), Row w0 T t vs → t ≠ 40 → t ≠ 42 → Row w T t vs
/-- A graph that is marked from k on. -/
def MarkedGr (w : World) (v : Value) (us : List Sc) (k : Nat) : Prop := ∃ oa cap, v = .slice oa us.length cap ∧ (us.length = 0 ∨ ∃ (g : Nat) (cells hs : List Value), oa = some ⟨g, 0, none⟩ ∧ Row w g 40 cells ∧ hs.length = us.length ∧
  ∀ (i : Nat) (s : Sc) (u : Value), us[i]? = some s → hs[i]? = some u → cells[i * 2]? = some (.int .i64 ((k : Int) + (marks (us.take i) : Int))) ∧ cells[i * 2 + 1]? = some u ∧ MarkedIt w u s.items.length (k + marks (us.take i) + 1))
theorem MarkedGr.below {w w' : World} {v : Value} {us : List Sc} {k : Nat} (h : MarkedGr w v us k) (hb : Below w.heap.size w w') : MarkedGr w' v us k := by
  obtain ⟨oa, cap, rfl, h | ⟨g, cells, hs, rfl, h2, h3, h4⟩⟩ := h
  · exact ⟨oa, cap, rfl, .inl h⟩
  · exact ⟨_, cap, rfl, .inr ⟨g, cells, hs, rfl, h2.below hb h2.lt, h3, fun i s u q1 q2 => by obtain ⟨a, b, c⟩ := h4 i s u q1 q2; exact ⟨a, b, c.below hb⟩⟩⟩
theorem below_of_grown {w w' : World} {B : Nat} {row : Option Nat} (hg : w.grownBy w' row) (hB : B ≤ w.heap.size) (hr : ∀ g, row = some g → B ≤ g) : Below B w w' :=
  ⟨hg.os, hg.tape, hg.output, hg.size, fun b hb => hg.block b (Nat.lt_of_lt_of_le hb hB) (fun e => by have := hr b e.symm; omega)⟩
/-- One scope more is marked. -/
theorem MarkRun.step {w0 w w' : World} {B g k j cap : Nat} {us : List Sc} {hs cells : List Value} (hO : OwnGr w0 B (.slice (some ⟨g, 0, none⟩) us.length cap) us hs) (h : MarkRun w0 w B g us hs k j cells) {s : Sc} {u : Value} (hs' : us[j]? = some s) (hu : hs[j]? = some u) (hB : B ≤ w0.heap.size) (hBg : B ≤ g)
    (hgr : (w.setCell ⟨g, j * 2, none⟩ (.int .i64 ((k : Int) + (marks (us.take j) : Int)))).grownBy w' u.ownBlock) (hm : MarkedIt w' u s.items.length (k + marks (us.take j) + 1)) :
    MarkRun w0 w' B g us hs k (j + 1) (cells.set (j * 2) (.int .i64 ((k : Int) + (marks (us.take j) : Int)))) := by
  obtain ⟨xs, hown⟩ := h.todo j s u (Nat.le_refl _) hs' hu
  have hjl := (List.getElem?_eq_some_iff.1 hs').1
  have hR1 := h.row.set (j * 2) (.int .i64 ((k : Int) + (marks (us.take j) : Int)))
  have hown1 := ownsRow_otherN hown h.row (by decide) (j * 2) (.int .i64 ((k : Int) + (marks (us.take j) : Int)))
  have hb1 : Below B w0 (w.setCell ⟨g, j * 2, none⟩ (.int .i64 ((k : Int) + (marks (us.take j) : Int)))) := h.below.setCell hBg _
  refine ⟨hR1.grown hgr (ownsRow_ne2 hR1 (by decide) hown1), by rw [List.length_set]; exact h.len, fun i v hv => ?_, fun i t v hi ht hv => ?_, fun i t v hi ht hv => ?_, ?_, fun T t vs hr n1 n2 => ?_⟩
  · rw [List.getElem?_set_ne (by omega)]; exact h.heads i v hv
  · by_cases he : i = j
    · subst he
      rw [hs'] at ht; cases ht
      rw [hu] at hv; cases hv
      exact ⟨List.getElem?_set_self (by have := h.len; omega), hm⟩
    · obtain ⟨a, b⟩ := h.done i t v (by omega) ht hv
      exact ⟨by rw [List.getElem?_set_ne (by omega)]; exact a, (b.set h.row).grown hgr (hO.apart i j v u he hv hu)⟩
  · obtain ⟨ys, hy⟩ := h.todo i t v (by omega) ht hv
    exact ⟨ys, ownsRow_apart (ownsRow_otherN hy h.row (by decide) (j * 2) _) hgr (hO.apart i j v u (by omega) hv hu)⟩
  · exact hb1.trans (below_of_grown hgr (Nat.le_trans hB hb1.size) (fun gg e => (hown1.lt gg e).1))
  · have hr1 := (h.keep T t vs hr n1 n2).other (a := ⟨g, j * 2, none⟩) (h.row.neq (h.keep T t vs hr n1 n2) (Ne.symm n1)) (.int .i64 ((k : Int) + (marks (us.take j) : Int)))
    exact hr1.grown hgr (ownsRow_ne2 hr1 n2 hown1)
/-- A graph and a truth, as a call hands them back. -/
def GrGot (ok : Prop) (l : List Sc) (w : World) (e : Ending) (w' : World) : Prop :=
  (¬ ok ∧ ∃ v hs, e = .returned (.tuple #[.agg #[v], .bool false]) ∧ OwnGr w' w.heap.size v [] hs ∧ Below w.heap.size w w') ∨
  (ok ∧ ∃ v hs, e = .returned (.tuple #[.agg #[v], .bool true]) ∧ OwnGr w' w.heap.size v l hs ∧ Below w.heap.size w w')
def grVal (ok : Prop) (l : List Sc) (xs : List Sc) (b : Bool) : Prop := (¬ ok ∧ xs = [] ∧ b = false) ∨ (ok ∧ xs = l ∧ b = true)
theorem OwnGr.nil (w : World) (B : Nat) : OwnGr w B (.slice none 0 0) [] [] :=
  ⟨rfl, World.ownsRow_nil _ _ _ _, fun i s u h => by simp at h, fun i j u u' _ h => by simp at h⟩
theorem GrGot.val {ok : Prop} {l : List Sc} {w w' : World} {e : Ending} (h : GrGot ok l w e w') : ∃ oa cap xs hs b, e = .returned (.tuple #[.agg #[.slice oa xs.length cap], .bool b]) ∧ grVal ok l xs b ∧ HoldsScopes w' oa xs ∧ OwnGr w' w.heap.size (.slice oa xs.length cap) xs hs ∧ Below w.heap.size w w' := by
  rcases h with ⟨h1, v, hs, rfl, ho, hb⟩ | ⟨h1, v, hs, rfl, ho, hb⟩
  · obtain ⟨oa, cap, rfl, hh⟩ := ho.holds
    exact ⟨oa, cap, [], hs, false, rfl, .inl ⟨h1, rfl, rfl⟩, hh, ho, hb⟩
  · obtain ⟨oa, cap, rfl, hh⟩ := ho.holds
    exact ⟨oa, cap, l, hs, true, rfl, .inr ⟨h1, rfl, rfl⟩, hh, ho, hb⟩
theorem grVal.same {ok : Prop} {l xs ys : List Sc} {b c : Bool} (h : grVal ok l xs b) (k : grVal ok l ys c) : xs = ys ∧ b = c := by
  rcases h with ⟨h1, h2, h3⟩ | ⟨h1, h2, h3⟩ <;> rcases k with ⟨k1, k2, k3⟩ | ⟨k1, k2, k3⟩
  · exact ⟨by rw [h2, k2], by rw [h3, k3]⟩
  · exact absurd k1 h1
  · exact absurd h1 k1
  · exact ⟨by rw [h2, k2], by rw [h3, k3]⟩
/-- Graphs small enough for the laws' marks. -/
structure SmallGr (us : List Sc) : Prop where
  len : us.length ≤ 1000
  items : ∀ s ∈ us, s.items.length ≤ 1000
theorem grVal.small {ok : Prop} {l xs : List Sc} {b : Bool} (h : grVal ok l xs b) (hl : ok → SmallGr l) : SmallGr xs := by
  rcases h with ⟨_, h2, _⟩ | ⟨h1, h2, _⟩
  · subst h2; exact ⟨by simp, fun s hs => by cases hs⟩
  · subst h2; exact hl h1
theorem marks_bound (n : Nat) : ∀ us : List Sc, (∀ s ∈ us, s.items.length ≤ n) → marks us ≤ us.length * (1 + 3 * n)
  | [], _ => by simp [marks]
  | s :: r, h => by
    have h1 := marks_bound n r (fun t ht => h t (List.mem_cons_of_mem _ ht))
    have h2 := h s List.mem_cons_self
    simp only [marks, List.length_cons, Nat.add_mul, Nat.one_mul]
    omega
theorem SmallGr.marks {us : List Sc} (h : SmallGr us) : marks us ≤ 1000000000 := by
  have h1 := marks_bound 1000 us h.items
  have h2 := Nat.mul_le_mul_right (1 + 3 * 1000) h.len
  omega
theorem OwnGr.mid {b0 b1 B : Nat} {w w' : World} {v : Value} {us : List Sc} {hs : List Value} (h : OwnGr w B v us hs) (hB : b1 ≤ B) (hm : Mid b0 b1 w w') : OwnGr w' B v us hs := by
  have key : ∀ {e : TypeId} {size n : Nat} {u : Value} {xs : List Value}, w.ownsRow B e size u n xs → w'.ownsRow B e size u n xs := fun {e size n u xs} hr => by
    have hlt := hr.lt
    obtain ⟨h1, h2 | ⟨g, cap, cur, hv, hBg, hh, r⟩⟩ := hr
    · exact ⟨h1, .inl h2⟩
    · exact ⟨h1, .inr ⟨g, cap, cur, hv, hBg, (hm.rest g (Array.getElem?_eq_some_iff.1 hh).1 (.inr (Nat.le_trans hB hBg))).trans hh, r⟩⟩
  exact ⟨h.len, key h.row, fun i s u h1 h2 => key (h.items i s u h1 h2), h.apart⟩
end Go.Proofs.YtjogfagjcpcihaaDoor
