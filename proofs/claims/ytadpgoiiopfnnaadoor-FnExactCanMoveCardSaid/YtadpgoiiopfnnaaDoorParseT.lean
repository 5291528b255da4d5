/-
  Graphs in memory of the call's own, that grow; the walks of the given l13OwnScope, l13OwnListScope and l13OwnGraph. Condition: the argument's memory holds the graph. What a text tells as a graph, and what memory holds while it is read. Plain facts. The walks of the given l1RawParseGraph, l13OwnGraph and ParseGraph: what a text tells, if it is that of a valid graph.
-/
import Derived.Test.YtadpgoiiopfnnaaDoorWMarksP
import Derived.Deep.Upon
import Derived.Test.YtadpgoiiopfnnaaDoorWFormat2
import Derived.Test.YtadpgoiiopfnnaaDoorWReadIt
import Derived.Test.YtadpgoiiopfnnaaDoorWNumCut
import Derived.Test.YtadpgoiiopfnnaaDoorWSpecPlace
namespace Go.Proofs.YtadpgoiiopfnnaaDoor
open Go Go.RowKit
/-- The cells of scopes whose items lie where these slices tell. -/
def scRow : List Sc → List Value → List Value
  | s :: r, u :: q => .int .i64 s.parent :: u :: scRow r q
  | _, _ => []
theorem scRow_snoc : ∀ {ss : List Sc} {hs : List Value} (s : Sc) (u : Value), hs.length = ss.length → scRow (ss ++ [s]) (hs ++ [u]) = scRow ss hs ++ [.int .i64 s.parent, u]
  | [], [], s, u, _ => rfl
  | t :: r, v :: q, s, u, h => by
    show .int .i64 t.parent :: v :: scRow (r ++ [s]) (q ++ [u]) = _
    rw [scRow_snoc s u (by simpa using h)]
    rfl
theorem scRow_at : ∀ {ss : List Sc} {hs : List Value} {i : Nat} {s : Sc} {u : Value}, ss[i]? = some s → hs[i]? = some u → (scRow ss hs)[i * 2]? = some (.int .i64 s.parent) ∧ (scRow ss hs)[i * 2 + 1]? = some u
  | t :: r, v :: q, 0, s, u, h1, h2 => by
    simp at h1 h2
    subst h1 h2
    exact ⟨rfl, rfl⟩
  | t :: r, v :: q, i + 1, s, u, h1, h2 => by
    have := scRow_at (ss := r) (hs := q) (i := i) (by simpa using h1) (by simpa using h2)
    rw [show (i + 1) * 2 = i * 2 + 2 from by omega]
    exact this
theorem scRow_length : ∀ {ss : List Sc} {hs : List Value}, hs.length = ss.length → (scRow ss hs).length = ss.length * 2
  | [], [], _ => rfl
  | t :: r, v :: q, h => by
    have := scRow_length (ss := r) (hs := q) (by simpa using h)
    simp only [scRow, List.length_cons, this]
    omega
/-- A graph of the call's own: its scopes in one block, each scope's items in one of their own. -/
structure OwnGr (w : World) (B : Nat) (v : Value) (ss : List Sc) (hs : List Value) : Prop where
  len : hs.length = ss.length
  row : w.ownsRow B 90 2 v ss.length (scRow ss hs)
  items : ∀ (i : Nat) (s : Sc) (u : Value), ss[i]? = some s → hs[i]? = some u → w.ownsRow B 65 3 u s.items.length (itemCells s.items)
  apart : ∀ (i j : Nat) (u u' : Value), i ≠ j → hs[i]? = some u → hs[j]? = some u' → u.ownBlock = none ∨ u.ownBlock ≠ u'.ownBlock
theorem OwnGr.below {w w' : World} {B : Nat} {v : Value} {ss : List Sc} {hs : List Value} (h : OwnGr w B v ss hs) (hb : Below w.heap.size w w') : OwnGr w' B v ss hs :=
  ⟨h.len, ownsRow_below h.row hb, fun i s u h1 h2 => ownsRow_below (h.items i s u h1 h2) hb, h.apart⟩
theorem ownsRow_lower1 {w : World} {base base' n size : Nat} {e : TypeId} {v : Value} {xs : List Value} (h : w.ownsRow base e size v n xs) (hb : base' ≤ base) : w.ownsRow base' e size v n xs := h.mono hb
theorem OwnGr.lower {w : World} {B B' : Nat} {v : Value} {ss : List Sc} {hs : List Value} (h : OwnGr w B v ss hs) (hB : B' ≤ B) : OwnGr w B' v ss hs :=
  ⟨h.len, h.row.mono hB, fun i s u h1 h2 => (h.items i s u h1 h2).mono hB, h.apart⟩
theorem holdsItems_of_owns {w : World} {B : Nat} {u : Value} {xs : List It} (h : w.ownsRow B 65 3 u xs.length (itemCells xs)) : ∃ oi ci, u = .slice oi xs.length ci ∧ HoldsItems w oi xs := by
  have hlt := h.lt
  have hcells := fun g hg => h.cells (g := g) hg
  obtain ⟨hl, h2 | ⟨g, cap, cur, hv, hB, hh, hn, _, hs, ht⟩⟩ := h
  · exact ⟨none, 0, by rw [h2.1, h2.2], .inl (List.eq_nil_of_length_eq_zero h2.2)⟩
  · subst hv
    refine ⟨_, cap, rfl, .inr ⟨g, 0, rfl, (hlt g rfl).2, fun i x hx => ?_⟩⟩
    obtain ⟨k0, k1, k2⟩ := itemCells_at xs i x hx
    have c := fun j u hu => hcells g rfl j u hu
    have c0 := c _ _ k0
    have c1 := c _ _ k1
    have c2 := c _ _ k2
    rw [Addr.add_lit] at c0 c1 c2
    exact ⟨c0, by rw [Nat.add_assoc]; exact c1, by rw [Nat.add_assoc]; exact c2⟩
theorem OwnGr.holds {w : World} {B : Nat} {v : Value} {ss : List Sc} {hs : List Value} (h : OwnGr w B v ss hs) : ∃ oa cap, v = .slice oa ss.length cap ∧ HoldsScopes w oa ss := by
  have hit := h.items
  have hln := h.len
  obtain ⟨-, hrow, -, -⟩ := h
  have hlt := hrow.lt
  have hcells := fun g hg => hrow.cells (g := g) hg
  obtain ⟨hl, h2 | ⟨g, cap, cur, hv, hB, hh, hn, _, hsz, ht⟩⟩ := hrow
  · exact ⟨none, 0, by rw [h2.1, h2.2], .inl (List.eq_nil_of_length_eq_zero h2.2)⟩
  · subst hv
    refine ⟨_, cap, rfl, .inr ⟨g, 0, rfl, (hlt g rfl).2, fun i s hs' => ?_⟩⟩
    obtain ⟨u, hu⟩ : ∃ u, hs[i]? = some u := ⟨_, List.getElem?_eq_getElem (by have := (List.getElem?_eq_some_iff.1 hs').1; omega)⟩
    obtain ⟨oi, ci, rfl, hi⟩ := holdsItems_of_owns (hit i s u hs' hu)
    obtain ⟨k0, k1⟩ := scRow_at hs' hu
    have c0 := hcells g rfl _ _ k0
    have c1 := hcells g rfl _ _ k1
    rw [Addr.add_lit] at c0 c1
    exact ⟨oi, ci, c0, by rw [Nat.add_assoc]; exact c1, hi⟩
theorem owns_types_apart {w : World} {b1 b2 n1 n2 s1 s2 : Nat} {t1 t2 : TypeId} {v1 v2 : Value} {xs1 xs2 : List Value} (h1 : w.ownsRow b1 t1 s1 v1 n1 xs1) (h2 : w.ownsRow b2 t2 s2 v2 n2 xs2) (ht : t1 ≠ t2) : v1.ownBlock = none ∨ v1.ownBlock ≠ v2.ownBlock := by
  obtain ⟨_, k1 | ⟨g1, c1, cur1, hv1, _, hh1, _⟩⟩ := h1
  · exact .inl (by rw [k1.1]; rfl)
  · obtain ⟨_, k2 | ⟨g2, c2, cur2, hv2, _, hh2, _⟩⟩ := h2
    · refine .inr ?_
      rw [k2.1, hv1]
      intro e
      cases e
    · refine .inr ?_
      rw [hv1, hv2]
      intro e
      simp only [Value.ownBlock, Option.some.injEq] at e
      subst e
      rw [hh1] at hh2
      injection hh2 with hh2
      injection hh2 with _ e2
      exact ht e2
/-- A row of one's own, when another block alone has turned. -/
theorem ownsRow_apart {w w' : World} {base n size : Nat} {e : TypeId} {v : Value} {xs : List Value} {row : Option Nat} (h : w.ownsRow base e size v n xs) (hg : w.grownBy w' row) (hne : v.ownBlock = none ∨ v.ownBlock ≠ row) : w'.ownsRow base e size v n xs := by
  obtain ⟨h1, h2 | ⟨g, cap, cur, hv, hB, hh, r⟩⟩ := h
  · exact ⟨h1, .inl h2⟩
  · refine ⟨h1, .inr ⟨g, cap, cur, hv, hB, (hg.block g (Array.getElem?_eq_some_iff.1 hh).1 ?_).trans hh, r⟩⟩
    rw [hv] at hne
    exact hne.resolve_left (by simp [Value.ownBlock])
/-- A scope more. -/
theorem OwnGr.snoc {w0 w w' : World} {B : Nat} {v v' u : Value} {ss : List Sc} {hs : List Value} {p : Int} {xs : List It} {o : Obj} (h0 : OwnGr w0 B v ss hs) (h : OwnGr w B v ss hs) (hu : w.ownsRow w0.heap.size 65 3 u xs.length (itemCells xs)) (hB : B ≤ w0.heap.size)
    (hg : (w.alloc o).grownBy w' v.ownBlock) (hown : w'.ownsRow B 90 2 v' (ss.length + 1) (scRow ss hs ++ [.int .i64 p, u])) : OwnGr w' B v' (ss ++ [⟨p, xs⟩]) (hs ++ [u]) where
  len := by simp [h.len]
  row := by
    rw [List.length_append, scRow_snoc _ _ h.len]
    exact hown
  items := fun i s z h1 h2 => by
    have far : ∀ {B' n : Nat} {z : Value} {zs : List Value}, w.ownsRow B' 65 3 z n zs → w'.ownsRow B' 65 3 z n zs := fun hz => ownsRow_apart (hz.alloc o) hg (owns_types_apart hz h.row (by decide))
    by_cases hi : i < ss.length
    · rw [List.getElem?_append_left hi] at h1
      rw [List.getElem?_append_left (by have := h.len; omega)] at h2
      exact far (h.items i s z h1 h2)
    · obtain ⟨rfl, rfl⟩ : i = ss.length ∧ s = ⟨p, xs⟩ := by
        have hl := (List.getElem?_eq_some_iff.1 h1).1
        simp only [List.length_append, List.length_singleton] at hl
        have hi' : i = ss.length := by omega
        subst hi'
        simp at h1
        exact ⟨rfl, h1.symm⟩
      have hz : z = u := by
        rw [← h.len] at h2
        simpa using h2.symm
      subst hz
      exact (far hu).mono hB
  apart := fun i j z z' hij h1 h2 => by
    have old : ∀ (k : Nat) (y : Value), hs[k]? = some y → (y.ownBlock = none ∨ y.ownBlock ≠ u.ownBlock) ∧ (u.ownBlock = none ∨ u.ownBlock ≠ y.ownBlock) := fun k y hy => by
      obtain ⟨s, hs'⟩ : ∃ s, ss[k]? = some s := ⟨_, List.getElem?_eq_getElem (by have := (List.getElem?_eq_some_iff.1 hy).1; have := h.len; omega)⟩
      have h3 := h0.items k s y hs' hy
      have key : ∀ g, y.ownBlock = some g → u.ownBlock = some g → False := fun g e1 e2 => by
        have a1 := (h3.lt g e1).2
        have a2 := (hu.lt g e2).1
        omega
      constructor
      · cases hy1 : y.ownBlock with
        | none => exact .inl rfl
        | some g => exact .inr fun e => key g hy1 e.symm
      · cases hu1 : u.ownBlock with
        | none => exact .inl rfl
        | some g => exact .inr fun e => key g e.symm hu1
    have at' : ∀ (k : Nat) (y : Value), (hs ++ [u])[k]? = some y → (k < hs.length ∧ hs[k]? = some y) ∨ (k = hs.length ∧ y = u) := fun k y hy => by
      by_cases hk : k < hs.length
      · rw [List.getElem?_append_left hk] at hy
        exact .inl ⟨hk, hy⟩
      · have hl := (List.getElem?_eq_some_iff.1 hy).1
        simp only [List.length_append, List.length_singleton] at hl
        have hk' : k = hs.length := by omega
        subst hk'
        simp at hy
        exact .inr ⟨rfl, hy.symm⟩
    rcases at' i z h1 with ⟨hi, h3⟩ | ⟨hi, rfl⟩
    · rcases at' j z' h2 with ⟨hj, h4⟩ | ⟨hj, rfl⟩
      · exact h.apart i j z z' hij h3 h4
      · exact (old i z h3).1
    · rcases at' j z' h2 with ⟨hj, h4⟩ | ⟨hj, rfl⟩
      · exact (old j z' h4).2
      · omega
/-- What a list of items yields to an append. -/
theorem items_src {w : World} {oi : Option Addr} {xs : List It} (h : HoldsItems w oi xs) : xs = [] ∨ ∃ b off, oi = some ⟨b, off, none⟩ ∧ ∀ j u, (itemCells xs)[j]? = some u → w.cell? ((⟨b, off, none⟩ : Addr).add j) = some u := by
  rcases h with h | ⟨b, off, h1, _, h3⟩
  · exact .inl h
  · refine .inr ⟨b, off, h1, fun j u hu => ?_⟩
    have hjl := (List.getElem?_eq_some_iff.1 hu).1
    rw [itemCells_length] at hjl
    obtain ⟨x, hx⟩ : ∃ x, xs[j / 3]? = some x := ⟨_, List.getElem?_eq_getElem (by omega)⟩
    obtain ⟨k0, k1, k2⟩ := itemCells_at xs _ x hx
    obtain ⟨c0, c1, c2⟩ := h3 _ x hx
    rw [Addr.add_lit]
    rcases (show j = j / 3 * 3 ∨ j = j / 3 * 3 + 1 ∨ j = j / 3 * 3 + 2 by omega) with e | e | e
    · rw [e] at hu ⊢
      rw [k0] at hu
      cases hu
      exact c0
    · rw [e, k1] at hu
      cases hu
      rw [e, ← Nat.add_assoc]
      exact c1
    · rw [e, k2] at hu
      cases hu
      rw [e, ← Nat.add_assoc]
      exact c2
theorem run_append_items {w : World} {base n : Nat} {v : Value} {cells : List Value} (hown : w.ownsRow base 65 3 v n cells) (hb : base ≤ w.heap.size) {oi : Option Addr} {ci : Nat} {xs : List It} (h : HoldsItems w oi xs) (hn : n < 2 ^ 30) (hx : xs.length < 2 ^ 30) (ty : TypeId) :
    ∃ v' w', (Builtin.append_ #[88, 88] ty #[v, .slice oi xs.length ci]).run Tryd.prog w = .ok v' w' ∧ w'.ownsRow base 65 3 v' (n + xs.length) (cells ++ itemCells xs) ∧ w.grownBy w' v.ownBlock := by
  obtain ⟨i0, hi, hz0, hz1, hz2⟩ := info_parts infoItem
  have ht := Tryd.underlying88
  cases oi with
  | none =>
    have hxe : xs = [] := by
      rcases h with h | ⟨b, off, h1, _⟩
      · exact h
      · cases h1
    subst hxe
    have key : ∀ (a : Option Addr) (k c : Nat), k ≤ c → (Builtin.append_ #[88, 88] ty #[.slice a k c, .slice none 0 ci]).run Tryd.prog w = .ok (.slice a k c) w := fun a k c hkc =>
      run_append_nothing (P := Tryd.prog) w _ _ ty 65 i0 ht hi a k c hkc _ (Src.ofNil w ht ci)
    refine ⟨v, w, ?_, by simpa [itemCells] using hown, ⟨rfl, rfl, rfl, Nat.le_refl _, fun _ _ _ => rfl⟩⟩
    rcases hown.2 with ⟨rfl, rfl⟩ | ⟨g, cap, cur, rfl, _, _, hnc, _⟩
    · exact key none 0 0 (Nat.le_refl _)
    · exact key _ _ _ hnc
  | some a =>
    have hsrc : ∀ j u, (itemCells xs)[j]? = some u → w.cell? (a.add j) = some u := by
      rcases items_src h with h1 | ⟨b, off, h1, h2⟩
      · intro j u hu
        rw [h1] at hu
        simp [itemCells] at hu
      · cases h1
        exact h2
    obtain ⟨v', w', hrun, k1, k2, -⟩ := run_append_own (P := Tryd.prog) w base 88 ty 65 i0 _ 3 32 ht hi hz0 hz1 hz2 rfl (by decide) v n cells hown a xs.length ci (itemCells xs) (by rw [itemCells_length, Nat.mul_comm]) hsrc (fun u hu => by
      unfold itemCells at hu
      obtain ⟨x, _, hx⟩ := List.mem_flatMap.1 hu
      simp only [List.mem_cons, List.not_mem_nil, or_false] at hx
      rcases hx with rfl | rfl | rfl <;> rfl) (by unfold maxLen; omega) (by omega) hb
    exact ⟨v', w', hrun, k1, k2⟩
theorem wpList_append_items {w : World} {ops : Array Oper} {rest : List Oper} {o : Oper} {a : Act} {Q : Exit → Act → World → Prop} (hgd : o.guard = none) (s x : Operand)
    (ho : o.op = .call { callee := .builtin .append, args := #[s, x], argTypes := #[88, 88] })
    {base n : Nat} {v : Value} {cells : List Value} (hs : a.eval s = v) (hown : w.ownsRow base 65 3 v n cells) (hb : base ≤ w.heap.size) {oi : Option Addr} {ci : Nat} {xs : List It} (hx : a.eval x = .slice oi xs.length ci) (h : HoldsItems w oi xs) (hn : n < 2 ^ 30) (hxn : xs.length < 2 ^ 30)
    (hK : ∀ v' w', w'.ownsRow base 65 3 v' (n + xs.length) (cells ++ itemCells xs) → w.grownBy w' v.ownBlock → wpList Tryd.prog ops Q rest (a.put o.dst v') w') : wpList Tryd.prog ops Q (o :: rest) a w := by
  refine wpList_plain hgd fun K hK' => ?_
  obtain ⟨v', w', hrun, r1, r2⟩ := run_append_items hown hb (ci := ci) h hn hxn o.type
  unfold Oper.wp
  simp [execOp, ho, resolve, invoke, builtin, hs, hx, hrun, Result.andThen]
  exact hK' _ _ (hK v' w' r1 r2)
theorem below_grown1 {w w' : World} {B : Nat} {row : Option Nat} (h : w.grownBy w' row) (hB : B ≤ w.heap.size) (hr : ∀ r, row = some r → B ≤ r) : Below B w w' := (Below.refl B w).grown h hB hr
theorem ownsRow_setFar {w : World} {base n size : Nat} {e : TypeId} {v : Value} {xs : List Value} (h : w.ownsRow base e size v n xs) {a : Addr} (ha : a.block < base) (u : Value) : (w.setCell a u).ownsRow base e size v n xs := by
  obtain ⟨h1, h2 | ⟨g, cap, cur, hv, hB, hh, r⟩⟩ := h
  · exact ⟨h1, .inl h2⟩
  · exact ⟨h1, .inr ⟨g, cap, cur, hv, hB, (Below.heap_setCell _ _ _ _ (by omega)).trans hh, r⟩⟩
set_option maxRecDepth 100000 in
set_option maxHeartbeats 1600000 in
theorem ownScope_any (s : Sc) (oi : Option Addr) (ci : Nat) (hn : s.items.length < 1048576) (w : World) (hc : HoldsItems w oi s.items) :
    Calls Tryd.prog 138 #[.agg #[.int .i64 s.parent, .slice oi s.items.length ci]] w fun e w' => ∃ o' c', e = .returned (.agg #[.int .i64 s.parent, .slice o' s.items.length c']) ∧ w'.ownsRow w.heap.size 65 3 (.slice o' s.items.length c') s.items.length (itemCells s.items) ∧ Below w.heap.size w w' := by
  obtain ⟨p, xs⟩ := s
  dsimp only at hn hc ⊢
  have hb0 : Below w.heap.size w (((w.alloc (.cells #[.int .i64 p, .slice oi xs.length ci] 90)).alloc (.cells #[.int .i64 0, .slice none 0 0] 90)).alloc (.cells #[] 65)) := (((Below.refl _ _).alloc (Nat.le_refl _) _).alloc (by simp) _).alloc (by simp; omega) _
  have R1 := ((Row.new w [.int .i64 p, .slice oi xs.length ci] 90).alloc (.cells #[.int .i64 0, .slice none 0 0] 90)).alloc (.cells #[] 65)
  have R2 := (Row.new (w.alloc (.cells #[.int .i64 p, .slice oi xs.length ci] 90)) [.int .i64 0, .slice none 0 0] 90).alloc (.cells #[] 65)
  rw [World.size_alloc] at R2
  have hown : (((w.alloc (.cells #[.int .i64 p, .slice oi xs.length ci] 90)).alloc (.cells #[.int .i64 0, .slice none 0 0] 90)).alloc (.cells #[] 65)).ownsRow (w.heap.size + 2) 65 3 (.slice (some ⟨w.heap.size + 1 + 1, 0, none⟩) 0 0) 0 [] := by
    have h0 := World.ownsRow_made (base := w.heap.size + 2) (e := 65) (size := 3) ((w.alloc (.cells #[.int .i64 p, .slice oi xs.length ci] 90)).alloc (.cells #[.int .i64 0, .slice none 0 0] 90)) #[] 0 (by simp) (by unfold maxLen; omega) rfl
    rw [World.size_alloc, World.size_alloc] at h0
    exact h0
  have x1 := R1.cell (i := 1) (by rfl)
  have HC := Lib.hid (hc.below hb0 (Nat.le_refl _))
  have HB := Lib.hid hb0
  have HO := Lib.hid hown
  have HR1 := Lib.hid R1
  have HR2 := Lib.hid R2
  clear hc hb0 hown R1 R2
  go_enter Tryd.func138, Tryd.ntmps138
  go_wp2_with (at_builtin; refine wpList_append_items rfl _ _ rfl rfl HO.out (by simp) rfl HC.out (by omega) (by omega) ?_)
  intro v1 w1 hown1 hg1
  obtain ⟨o', c', rfl, -⟩ := holdsItems_of_owns hown1
  have hb1 : Below (w.heap.size + 2) _ w1 := below_grown1 hg1 (by simp) (fun r e => by simp only [Value.ownBlock, Option.some.injEq] at e; omega)
  have R1 := HR1.out.below hb1 (by omega)
  have R2 := HR2.out.below hb1 (by omega)
  have HB1 := Lib.hid (HB.out.trans (hb1.mono (by omega)))
  have HS := Lib.hid ((R2.other (a := ⟨w.heap.size, 1, none⟩) (by simp) (.slice o' xs.length c')).set 0 (.int .i64 p) |>.set 1 (.slice o' xs.length c'))
  have a0 := R1.cell (i := 0) (v := .int .i64 p) (by rfl)
  have a1 := R1.cell (i := 1) (v := .slice oi xs.length ci) (by rfl)
  have f1 := R1.frozen 1
  have b0 := R2.cell (i := 0) (v := .int .i64 0) (by rfl)
  have b1 := R2.cell (i := 1) (v := .slice none 0 0) (by rfl)
  have g0 := R2.frozen 0
  have g1 := R2.frozen 1
  have HOW := Lib.hid hown1
  have hz : w.heap.size + 1 < w1.heap.size := R2.lt
  clear hown1 hg1 hb1 R1 R2 x1
  go_wp2
  have d0 := HS.out.cell (i := 0) (v := .int .i64 p) (by rfl)
  have d1 := HS.out.cell (i := 1) (v := .slice o' xs.length c') (by rfl)
  refine bodyPost_ret (v := .agg #[.int .i64 p, .slice o' xs.length c']) (by simp [results, Tryd.results138, go_sem, d0, d1]) rfl ⟨o', c', rfl, ?_, ?_⟩
  · exact (ownsRow_setFar (ownsRow_setFar (ownsRow_setFar HOW.out (by simp) _) (by simp) _) (by simp) _).mono (by omega)
  · exact ((HB1.out.setCell (Nat.le_refl _) _).setCell (by simp) _).setCell (by simp) _
/-- The empty slice of scopes. -/
theorem OwnGr.made (w : World) (B : Nat) (hB : B ≤ w.heap.size) : OwnGr (w.alloc (.cells #[] 90)) B (.slice (some ⟨w.heap.size, 0, none⟩) 0 0) [] [] where
  len := rfl
  row := (World.ownsRow_made (base := w.heap.size) (e := 90) (size := 2) w #[] 0 (by simp) (by unfold maxLen; omega) rfl).mono hB
  items := by simp
  apart := by simp
set_option maxRecDepth 100000 in
set_option maxHeartbeats 4000000 in
theorem ownList_any (ss : List Sc) (oa : Option Addr) (cap : Nat) (hn : ss.length ≤ 1048576) (hn2 : ∀ s ∈ ss, s.items.length < 1048576) (w : World) (hc : HoldsScopes w oa ss) :
    Calls Tryd.prog 100 #[.slice oa ss.length cap] w fun e w' => ∃ v hs, e = .returned v ∧ OwnGr w' w.heap.size v ss hs ∧ Below w.heap.size w w' := by
  have hM := OwnGr.made w w.heap.size (Nat.le_refl _)
  have HB0 := Lib.hid ((Below.refl w.heap.size w).alloc (Nat.le_refl _) (.cells #[] 90))
  have HM := Lib.hid hM
  have HC := Lib.hid hc
  have HN2 := Lib.hid hn2
  obtain ⟨i0, hi0, hz0, hz1, hz2⟩ := info_parts infoScope
  clear hc hn2 hM
  go_enter Tryd.func100, Tryd.ntmps100
  go_wp2
  go_loopw [3, 9] (fun v i wr => ∃ (k : Nat) (hs : List Value), i = .int .i64 k ∧ k ≤ ss.length ∧ Hid (OwnGr wr w.heap.size v (ss.take k) hs ∧ Below w.heap.size w wr)) (fun _ i _ => ss.length - (intOf i).toNat)
  case atStart => exact ⟨0, [], rfl, Nat.zero_le _, Lib.hid ⟨HM.out, HB0.out⟩⟩
  case round =>
    obtain ⟨k, hs, rfl, hk, hP⟩ := hrel
    by_cases hlt : k < ss.length
    · obtain ⟨s, hs'⟩ : ∃ s, ss[k]? = some s := ⟨_, List.getElem?_eq_getElem hlt⟩
      obtain ⟨b1, f1, rfl, hb1, hcell⟩ := HC.out.at (by omega)
      obtain ⟨oi, ci, x0, x1, hIt⟩ := hcell k s hs'
      have y0 := (hP.out.2.cell (p := ⟨b1, _, none⟩) hb1).trans x0
      have y1 := (hP.out.2.cell (p := ⟨b1, _, none⟩) hb1).trans x1
      have hbA := (Below.refl wr.heap.size wr).alloc (Nat.le_refl _) (.cells #[.int .i64 s.parent, .slice oi s.items.length ci] 90)
      have HIA := Lib.hid (hIt.below (hP.out.2.trans (hbA.mono hP.out.2.size)) (Nat.le_refl _))
      have HBA := Lib.hid (hP.out.2.trans (hbA.mono hP.out.2.size))
      have HGA := Lib.hid (hP.out.1.below hbA)
      have C := Lib.hid (ownScope_any s oi ci (HN2.out s (List.mem_of_getElem? hs')) _ HIA.out)
      have HTK : Hid (ss.take (k + 1) = ss.take k ++ [s]) := Lib.hid (by rw [List.take_add_one, hs']; rfl)
      have hkl : (ss.take k).length = k := by rw [List.length_take]; omega
      have HKL := Lib.hid hkl
      have hbz := hP.out.2.size
      clear hs' hcell x0 x1 hIt hbA hkl
      go_wp2_with fail
      refine C.out.mono ?_
      rintro e w2 ⟨o', c', rfl, hown2, hb2⟩
      have HB2 := Lib.hid (HBA.out.trans (hb2.mono HBA.out.size))
      have HG2 := Lib.hid (HGA.out.below hb2)
      have HU2 := Lib.hid hown2
      have hrow := HG2.out.row
      rw [HKL.out] at hrow
      have HROW := Lib.hid hrow
      have hbs2 := HB2.out.size
      have hz3 : w.heap.size ≤ (wr.alloc (.cells #[.int .i64 s.parent, .slice oi s.items.length ci] 90)).heap.size := HBA.out.size
      clear hown2 hb2 hrow y0 y1
      go_wp2_with (at_builtin; refine wpList_append_own _ rfl _ _ 28 rfl w.heap.size 90 i0 _ 2 32 Tryd.underlying28 hi0 hz0 hz1 hz2 rfl (by decide) _ _ _ rfl (HROW.out.alloc _) ⟨w2.heap.size, 0, none⟩ 1 1 [.int .i64 s.parent, .slice o' s.items.length c'] rfl rfl ?c1 ?c2 ?c3 ?c4 ?c5 ?_)
      case c1 => exact cells_new2 _ _ _ _
      case c2 => intro u hu; simp only [List.mem_cons, List.not_mem_nil, or_false] at hu; rcases hu with rfl | rfl <;> rfl
      case c3 => unfold maxLen; omega
      case c4 => omega
      case c5 => simp only [World.size_alloc]; omega
      intro v' w3 hown3 hgrow _
      have HG3 : Hid (OwnGr w3 w.heap.size v' (ss.take (k + 1)) (hs ++ [.slice o' s.items.length c'])) := Lib.hid (by
        rw [HTK.out]
        refine OwnGr.snoc (p := s.parent) (xs := s.items) HGA.out HG2.out HU2.out hz3 hgrow ?_
        rw [HKL.out]
        exact hown3)
      have HB3 := Lib.hid (HB2.out.trans (((Below.refl w.heap.size w2).alloc hbs2 (.cells #[.int .i64 s.parent, .slice o' s.items.length c'] 90)).trans (below_grown1 hgrow (by simp; omega) (fun r e => (HROW.out.lt r e).1))))
      clear hown3 hgrow
      go_wp2
      go_roundw
      case rel => exact ⟨k + 1, _, by go_num, by omega, Lib.hid ⟨HG3.out, HB3.out⟩⟩
      case measure => simp only [intOf]; omega
    · obtain rfl : k = ss.length := by omega
      have HG : Hid (OwnGr wr w.heap.size _ ss hs) := Lib.hid (by have := hP.out.1; rwa [List.take_length] at this)
      go_wp2
      go_ret
      exact ⟨_, hs, rfl, HG.out, hP.out.2⟩
end Go.Proofs.YtadpgoiiopfnnaaDoor
namespace Go.Proofs.YtadpgoiiopfnnaaDoor
open Go Go.RowKit Sg
def itOf (p : List UInt8) : It := readIt ⟨p.toArray⟩
def okIt (p : List UInt8) : Bool := nameB (itOf p).name
/-- A scope, by its parts. -/
def parOf (ps : List (List UInt8)) : Int := match ps with
  | p :: _ => if numB p then numI p else -1
  | [] => -1
def scOf (ps : List (List UInt8)) : Sc := ⟨parOf ps, ps.tail.map itOf⟩
def okSc (ps : List (List UInt8)) : Bool := ps.tail.all okIt
/-- A graph, by the parts of its text. -/
def grOf (s : List UInt8) : List Sc := (parts 59 s).map fun p => scOf (parts 44 p)
def okGr (s : List UInt8) : Bool := (parts 59 s).all fun p => okSc (parts 44 p)
def ParseOk (s : List UInt8) : Prop := okGr s = true ∧ s ≠ [] ∧ Valid (grOf s) ∧ gTx (grOf s) = s
theorem readIt_short (s : ByteArray) : (readIt s).name.size ≤ s.size := by
  unfold readIt
  split
  · simp [ByteArray.size_extract]
  · split
    · simp [ByteArray.size_extract]
    · split
      · simp [ByteArray.size_extract]; omega
      · exact Nat.le_refl _
theorem readIt_i64 (s : ByteArray) : I64 (readIt s).scope ∧ I64 (readIt s).kind := by
  unfold readIt I64
  split
  · simp
  · split
    · simp
    · split
      · have := UInt8.toNat_lt (s.data.toList[2]?.getD 0)
        dsimp only
        omega
      · simp
theorem ownsRow_otherN {w : World} {B : Nat} {e : TypeId} {v : Value} {n T size : Nat} {xs : List Value} {t : TypeId} {vs : List Value} (h : w.ownsRow B e size v n xs) (hT : Row w T t vs) (ht : t ≠ e) (i : Nat) (u : Value) : (w.setCell ⟨T, i, none⟩ u).ownsRow B e size v n xs := by
  obtain ⟨hl, h2 | ⟨g, cap, cur, hv, hB, hh, hr⟩⟩ := h
  · exact ⟨hl, .inl h2⟩
  · refine ⟨hl, .inr ⟨g, cap, cur, hv, hB, ?_, hr⟩⟩
    rw [Below.heap_setCell _ _ _ _ (show g ≠ T from ?_)]
    · exact hh
    · rintro rfl
      unfold Row at hT
      rw [hT] at hh
      simp at hh
      exact ht hh.2
theorem OwnGr.other {w : World} {B T : Nat} {v : Value} {ss : List Sc} {hs : List Value} {t : TypeId} {vs : List Value} (h : OwnGr w B v ss hs) (hT : Row w T t vs) (h1 : t ≠ 90 ∨ v.ownBlock ≠ some T) (h2 : t ≠ 65) (i : Nat) (u : Value) : OwnGr (w.setCell ⟨T, i, none⟩ u) B v ss hs where
  len := h.len
  row := by
    rcases h1 with h1 | h1
    · exact ownsRow_otherN h.row hT h1 i u
    · obtain ⟨hl, h3 | ⟨g, cap, cur, hv, hB, hh, hr⟩⟩ := h.row
      · exact ⟨hl, .inl h3⟩
      · refine ⟨hl, .inr ⟨g, cap, cur, hv, hB, (Below.heap_setCell _ _ _ _ ?_).trans hh, hr⟩⟩
        rintro rfl
        exact h1 (by rw [hv]; rfl)
  items := fun k s z k1 k2 => ownsRow_otherN (h.items k s z k1 k2) hT h2 i u
  apart := h.apart
/-- What memory holds while a scope is read: W0 the world at its beginning. -/
structure RawIn (w W0 wr : World) (B2 B4 B7 : Nat) (v : Value) (ss : List Sc) (hs : List Value) (p : Int) (u : Value) (xs : List It) (vp : Value) (ps : List (List UInt8)) (vq : Value) (qs : List (List UInt8)) : Prop where
  t2 : Row wr B2 30 [.slice none 0 0]
  t4 : Row wr B4 30 [v]
  t7 : Row wr B7 90 [.int .i64 p, u]
  low7 : W0.heap.size ≤ B7
  base : w.heap.size ≤ W0.heap.size
  gr0 : OwnGr W0 w.heap.size v ss hs
  gr : OwnGr wr w.heap.size v ss hs
  its : wr.ownsRow W0.heap.size 65 3 u xs.length (itemCells xs)
  psr : wr.ownsRow w.heap.size 9 1 vp ps.length (ps.map strV)
  qsr : wr.ownsRow w.heap.size 9 1 vq qs.length (qs.map strV)
  below : Below w.heap.size w wr
section
variable {w W0 wr w' : World} {B2 B4 B7 : Nat} {v u vp vq : Value} {ss : List Sc} {hs : List Value} {p : Int} {xs : List It} {ps qs : List (List UInt8)}
theorem RawIn.step (h : RawIn w W0 wr B2 B4 B7 v ss hs p u xs vp ps vq qs) (hb : Below wr.heap.size wr w') : RawIn w W0 w' B2 B4 B7 v ss hs p u xs vp ps vq qs where
  t2 := h.t2.below hb h.t2.lt
  t4 := h.t4.below hb h.t4.lt
  t7 := h.t7.below hb h.t7.lt
  low7 := h.low7
  base := h.base
  gr0 := h.gr0
  gr := h.gr.below hb
  its := ownsRow_below h.its hb
  psr := ownsRow_below h.psr hb
  qsr := ownsRow_below h.qsr hb
  below := h.below.trans (hb.mono h.below.size)
theorem RawIn.vne (h : RawIn w W0 wr B2 B4 B7 v ss hs p u xs vp ps vq qs) : v.ownBlock ≠ some B7 := fun e => by
  have := (h.gr0.row.lt _ e).2
  have := h.low7
  omega
theorem RawIn.set (h : RawIn w W0 wr B2 B4 B7 v ss hs p u xs vp ps vq qs) (i : Nat) (z : Value) {p' : Int} {u' : Value} {xs' : List It} (hz : [Value.int .i64 p, u].set i z = [.int .i64 p', u']) (hu : wr.ownsRow W0.heap.size 65 3 u' xs'.length (itemCells xs')) :
    RawIn w W0 (wr.setCell ⟨B7, i, none⟩ z) B2 B4 B7 v ss hs p' u' xs' vp ps vq qs where
  t2 := h.t2.other (fun e => h.t7.neq h.t2 (by decide) e) z
  t4 := h.t4.other (fun e => h.t7.neq h.t4 (by decide) e) z
  t7 := by have := h.t7.set i z; rwa [hz] at this
  low7 := h.low7
  base := h.base
  gr0 := h.gr0
  gr := h.gr.other h.t7 (.inr h.vne) (by decide) i z
  its := ownsRow_otherN hu h.t7 (by decide) i z
  psr := ownsRow_otherN h.psr h.t7 (by decide) i z
  qsr := ownsRow_otherN h.qsr h.t7 (by decide) i z
  below := h.below.setCell (Nat.le_trans h.base h.low7) z
theorem own_row_ne {w : World} {g n size B : Nat} {t e : TypeId} {v : Value} {vs xs : List Value} (hr : Row w g t vs) (h : w.ownsRow B e size v n xs) (ht : t ≠ e) : some g ≠ v.ownBlock := by
  obtain ⟨hl, h2 | ⟨g', cap, cur, hv, hB, hh, _⟩⟩ := h
  · rw [h2.1]; simp [Value.ownBlock]
  · rw [hv]
    intro e'
    simp only [Value.ownBlock, Option.some.injEq] at e'
    subst e'
    unfold Row at hr
    rw [hr] at hh
    simp at hh
    exact ht hh.2
theorem RawIn.grGrown (h : RawIn w W0 wr B2 B4 B7 v ss hs p u xs vp ps vq qs) {o : Obj} (hg : (wr.alloc o).grownBy w' u.ownBlock) : OwnGr w' w.heap.size v ss hs where
  len := h.gr.len
  row := ownsRow_apart (h.gr.row.alloc o) hg (owns_types_apart h.gr.row h.its (by decide))
  items := fun i s z h1 h2 => by
    refine ownsRow_apart ((h.gr.items i s z h1 h2).alloc o) hg ?_
    cases hz : z.ownBlock with
    | none => exact .inl rfl
    | some g =>
      refine .inr fun e => ?_
      have a1 := ((h.gr0.items i s z h1 h2).lt g hz).2
      have a2 := (h.its.lt g e.symm).1
      omega
  apart := h.gr.apart
/-- The items' row grows, and the scope holds it. -/
theorem RawIn.push (h : RawIn w W0 wr B2 B4 B7 v ss hs p u xs vp ps vq qs) {o : Obj} (hg : (wr.alloc o).grownBy w' u.ownBlock) {u' : Value} {xs' : List It} (hu : w'.ownsRow W0.heap.size 65 3 u' xs'.length (itemCells xs')) :
    RawIn w W0 (w'.setCell ⟨B7, 1, none⟩ u') B2 B4 B7 v ss hs p u' xs' vp ps vq qs := by
  have g2 : Row w' B2 30 [.slice none 0 0] := (h.t2.alloc o).grown hg (own_row_ne h.t2 h.its (by decide))
  have g4 : Row w' B4 30 [v] := (h.t4.alloc o).grown hg (own_row_ne h.t4 h.its (by decide))
  have g7 : Row w' B7 90 [.int .i64 p, u] := (h.t7.alloc o).grown hg (own_row_ne h.t7 h.its (by decide))
  have hB : Below w.heap.size w w' := (h.below.alloc h.below.size o).grown hg (by have := h.below.size; simp; omega) (fun r e => Nat.le_trans h.base (h.its.lt r e).1)
  exact
    { t2 := g2.other (fun e => g7.neq g2 (by decide) e) u'
      t4 := g4.other (fun e => g7.neq g4 (by decide) e) u'
      t7 := g7.set 1 u'
      low7 := h.low7
      base := h.base
      gr0 := h.gr0
      gr := (h.grGrown hg).other g7 (.inr h.vne) (by decide) 1 u'
      its := ownsRow_otherN hu g7 (by decide) 1 u'
      psr := ownsRow_otherN (ownsRow_apart (h.psr.alloc o) hg (owns_types_apart h.psr h.its (by decide))) g7 (by decide) 1 u'
      qsr := ownsRow_otherN (ownsRow_apart (h.qsr.alloc o) hg (owns_types_apart h.qsr h.its (by decide))) g7 (by decide) 1 u'
      below := hB.setCell (Nat.le_trans h.base h.low7) u' }
end
/-- What memory holds between two scopes. -/
structure RawOut (w wr : World) (B2 B4 : Nat) (v : Value) (ss : List Sc) (hs : List Value) (vp : Value) (ps : List (List UInt8)) : Prop where
  t2 : Row wr B2 30 [.slice none 0 0]
  t4 : Row wr B4 30 [v]
  low4 : w.heap.size ≤ B4
  gr : OwnGr wr w.heap.size v ss hs
  psr : wr.ownsRow w.heap.size 9 1 vp ps.length (ps.map strV)
  below : Below w.heap.size w wr
theorem RawOut.step {w wr w' : World} {B2 B4 : Nat} {v vp : Value} {ss : List Sc} {hs : List Value} {ps : List (List UInt8)} (h : RawOut w wr B2 B4 v ss hs vp ps) (hb : Below wr.heap.size wr w') : RawOut w w' B2 B4 v ss hs vp ps :=
  ⟨h.t2.below hb h.t2.lt, h.t4.below hb h.t4.lt, h.low4, h.gr.below hb, ownsRow_below h.psr hb, h.below.trans (hb.mono h.below.size)⟩
/-- A scope is begun. -/
theorem RawOut.begin {w wr w' : World} {B2 B4 : Nat} {v vp vq : Value} {ss : List Sc} {hs : List Value} {ps qs : List (List UInt8)} (h : RawOut w wr B2 B4 v ss hs vp ps) (hb : Below ((wr.alloc (.cells #[] 65)).alloc (.cells #[.int .i64 (-1), .slice (some ⟨wr.heap.size, 0, none⟩) 0 0] 90)).heap.size ((wr.alloc (.cells #[] 65)).alloc (.cells #[.int .i64 (-1), .slice (some ⟨wr.heap.size, 0, none⟩) 0 0] 90)) w')
    (hq : w'.ownsRow ((wr.alloc (.cells #[] 65)).alloc (.cells #[.int .i64 (-1), .slice (some ⟨wr.heap.size, 0, none⟩) 0 0] 90)).heap.size 9 1 vq qs.length (qs.map strV)) :
    RawIn w wr w' B2 B4 (wr.heap.size + 1) v ss hs (-1) (.slice (some ⟨wr.heap.size, 0, none⟩) 0 0) [] vp ps vq qs := by
  have hba : Below wr.heap.size wr ((wr.alloc (.cells #[] 65)).alloc (.cells #[.int .i64 (-1), .slice (some ⟨wr.heap.size, 0, none⟩) 0 0] 90)) := ((Below.refl _ _).alloc (Nat.le_refl _) _).alloc (by simp) _
  have hbw : Below wr.heap.size wr w' := hba.trans (hb.mono hba.size)
  have r7 := Row.new (wr.alloc (.cells #[] 65)) [.int .i64 (-1), .slice (some ⟨wr.heap.size, 0, none⟩) 0 0] 90
  rw [World.size_alloc] at r7
  have h1 := h.step hbw
  exact
    { t2 := h1.t2
      t4 := h1.t4
      t7 := r7.below hb r7.lt
      low7 := Nat.le_succ _
      base := h.below.size
      gr0 := h.gr
      gr := h1.gr
      its := by
        have h0 := (World.ownsRow_made (base := wr.heap.size) (e := 65) (size := 3) wr #[] 0 (by simp) (by unfold maxLen; omega) rfl)
        exact ownsRow_below (h0.alloc _) hb
      psr := h1.psr
      qsr := hq.mono (Nat.le_trans h.below.size hba.size)
      below := h1.below }
/-- A scope is ended: it is one of the graph's. -/
theorem RawIn.ended {w W0 wr w' : World} {B2 B4 B7 : Nat} {v u vp vq v' : Value} {ss : List Sc} {hs : List Value} {p : Int} {xs : List It} {ps qs : List (List UInt8)} (h : RawIn w W0 wr B2 B4 B7 v ss hs p u xs vp ps vq qs) (h4 : w.heap.size ≤ B4) {o : Obj} (hg : (wr.alloc o).grownBy w' v.ownBlock)
    (hown : w'.ownsRow w.heap.size 90 2 v' (ss.length + 1) (scRow ss hs ++ [.int .i64 p, u])) : RawOut w (w'.setCell ⟨B4, 0, none⟩ v') B2 B4 v' (ss ++ [⟨p, xs⟩]) (hs ++ [u]) vp ps ∨ B2 = B4 := by
  by_cases he : B2 = B4
  · exact .inr he
  left
  have g2 : Row w' B2 30 [.slice none 0 0] := (h.t2.alloc o).grown hg (own_row_ne h.t2 h.gr.row (by decide))
  have g4 : Row w' B4 30 [v] := (h.t4.alloc o).grown hg (own_row_ne h.t4 h.gr.row (by decide))
  have hB : Below w.heap.size w w' := (h.below.alloc h.below.size o).grown hg (by have := h.below.size; simp; omega) (fun r e => (h.gr.row.lt r e).1)
  exact
    { t2 := g2.other (Ne.symm he) v'
      t4 := g4.set 0 v'
      low4 := h4
      gr := (OwnGr.snoc h.gr0 h.gr h.its h.base hg hown).other g4 (.inl (by decide)) (by decide) 0 v'
      psr := ownsRow_otherN (ownsRow_apart (h.psr.alloc o) hg (owns_types_apart h.psr h.gr.row (by decide))) g4 (by decide) 0 v'
      below := hB.setCell h4 v' }
end Go.Proofs.YtadpgoiiopfnnaaDoor
namespace Go.Proofs.YtadpgoiiopfnnaaDoor
open Go Go.RowKit Sg
theorem parts_count (c : UInt8) : ∀ l : List UInt8, (parts c l).length ≤ l.length + 1
  | [] => by simp [parts]
  | b :: r => by
    have ih := parts_count c r
    by_cases hb : b = c
    · subst hb
      rw [parts_eq]
      simp; omega
    · rw [parts_neq hb]
      cases hq : parts c r with
      | nil => exact absurd hq (parts_ne c r)
      | cons q qs =>
        rw [hq] at ih
        simp only [glue, List.length_cons] at ih ⊢
        omega
/-- The texts that a row holds. -/
theorem texts_at {w : World} {B : Nat} {v : Value} {ps : List (List UInt8)} (h : w.ownsRow B 9 1 v ps.length (ps.map strV)) (hne : ps ≠ []) : ∃ g off cap, v = .slice (some ⟨g, off, none⟩) ps.length cap ∧ ∀ (W : World) (B' : Nat), W.ownsRow B' 9 1 v ps.length (ps.map strV) → ∀ (i : Nat) (p : List UInt8), ps[i]? = some p → W.cell? ⟨g, off + i, none⟩ = some (.string ⟨p.toArray⟩) := by
  obtain ⟨hl, h2 | ⟨g, cap, cur, hv, _⟩⟩ := h
  · exact absurd (List.eq_nil_of_length_eq_zero h2.2) hne
  · refine ⟨g, 0, cap, hv, fun W B' hW i p hp => ?_⟩
    have := hW.cells (g := g) (by rw [hv]; rfl) i (strV p) (by rw [List.getElem?_map, hp]; rfl)
    rw [Addr.add_lit] at this
    exact this
def RawGot (s : List UInt8) (w : World) (e : Ending) (w' : World) : Prop :=
  (ParseOk s ∧ ∃ v hs, e = .returned (.tuple #[.agg #[v], .bool true]) ∧ OwnGr w' w.heap.size v (grOf s) hs ∧ Below w.heap.size w w') ∨
  (¬ ParseOk s ∧ e = .returned (.tuple #[.agg #[.slice none 0 0], .bool false]) ∧ Below w.heap.size w w')
theorem okGr_bad {s p : List UInt8} (h1 : p ∈ parts 59 s) {y : List UInt8} (h2 : y ∈ (parts 44 p).tail) (h3 : okIt y = false) : ¬ ParseOk s := by
  intro h
  have h4 := h.1
  unfold okGr at h4
  have h5 := List.all_eq_true.1 h4 p h1
  unfold okSc at h5
  have h6 := List.all_eq_true.1 h5 y h2
  rw [h3] at h6
  cases h6
theorem fits_grOf (s : List UInt8) (hs : s.length ≤ 1000000) : FitsScopes (grOf s) ∧ (grOf s).length ≤ 1048576 ∧ (∀ c ∈ grOf s, c.items.length < 1048576) := by
  have h1 : ∀ c ∈ grOf s, c.items.length < 1048576 ∧ FitsItems c.items := fun c hc => by
    unfold grOf at hc
    obtain ⟨p, hp, rfl⟩ := List.mem_map.1 hc
    have l1 := parts_len 59 s p hp
    have l2 := parts_count 44 p
    have l3 : (scOf (parts 44 p)).items.length ≤ (parts 44 p).length := by simp [scOf]
    refine ⟨by omega, by omega, fun x hx => ?_⟩
    unfold scOf at hx
    obtain ⟨y, hy, rfl⟩ := List.mem_map.1 hx
    have l4 := parts_len 44 p y (List.mem_of_mem_tail hy)
    have l5 := readIt_short ⟨y.toArray⟩
    have l6 : (⟨y.toArray⟩ : ByteArray).size = y.length := by simp [ByteArray.size]
    unfold itOf
    omega
  have h2 : (grOf s).length ≤ 1000001 := by
    have := parts_count 59 s
    unfold grOf
    rw [List.length_map]
    omega
  exact ⟨⟨by omega, fun c hc => (h1 c hc).2⟩, by omega, fun c hc => (h1 c hc).1⟩
/-- What holds at the head of a round over the parts of a scope. -/
structure RawHd (w W0 wr : World) (B2 B4 B7 : Nat) (v : Value) (ss : List Sc) (hs : List Value) (vp : Value) (ps : List (List UInt8)) (vq : Value) (qs : List (List UInt8)) (j : Nat) : Prop where
  at' : ∃ p u, RawIn w W0 wr B2 B4 B7 v ss hs p u ((qs.tail.take (j - 1)).map itOf) vp ps vq qs ∧ p = if j = 0 then -1 else parOf qs
  oks : ∀ y ∈ qs.tail.take (j - 1), okIt y = true
theorem cut_semi (s : ByteArray) (w : World) (hs : s.size ≤ 1048576) :
    Calls Tryd.prog 176 #[.string s, .int .u8 59] w fun e w' => ∃ v, e = .returned v ∧ w'.ownsRow w.heap.size 9 1 v (parts 59 s.data.toList).length ((parts 59 s.data.toList).map strV) ∧ Below w.heap.size w w' := l13Cut_any s 59 w hs
theorem cut_comma (p : List UInt8) (w : World) (hs : p.length ≤ 1048576) :
    Calls Tryd.prog 176 #[.string ⟨p.toArray⟩, .int .u8 44] w fun e w' => ∃ v, e = .returned v ∧ w'.ownsRow w.heap.size 9 1 v (parts 44 p).length ((parts 44 p).map strV) ∧ Below w.heap.size w w' :=
  l13Cut_any ⟨p.toArray⟩ 44 w (by simpa [ByteArray.size] using hs)
theorem cells_new3 (w : World) (x y z : Value) (t : TypeId) : ∀ (j : Nat) (u : Value), [x, y, z][j]? = some u → (w.alloc (.cells #[x, y, z] t)).cell? ((⟨w.heap.size, 0, none⟩ : Addr).add j) = some u := by
  intro j u hj
  match j, hj with
  | 0, hj => simp at hj; subst hj; simp [Addr.add]
  | 1, hj => simp at hj; subst hj; simp [Addr.add]
  | 2, hj => simp at hj; subst hj; simp [Addr.add]
set_option maxRecDepth 100000 in
set_option maxHeartbeats 8000000 in
theorem rawParse_any (s : ByteArray) (hs : s.size ≤ 1000000) (w : World) : Calls Tryd.prog 174 #[.string s] w (RawGot s.data.toList w) := by
  have hsl : s.data.toList.length = s.size := by rw [Array.length_toList]; rfl
  have hb0 : Below w.heap.size w (((w.alloc (.cells #[.slice none 0 0] 30)).alloc (.cells #[] 90)).alloc (.cells #[.slice (some ⟨w.heap.size + 1, 0, none⟩) 0 0] 30)) := (((Below.refl _ _).alloc (Nat.le_refl _) _).alloc (by simp) _).alloc (by simp; omega) _
  have r2 : Row (((w.alloc (.cells #[.slice none 0 0] 30)).alloc (.cells #[] 90)).alloc (.cells #[.slice (some ⟨w.heap.size + 1, 0, none⟩) 0 0] 30)) w.heap.size 30 [.slice none 0 0] := ((Row.new w [.slice none 0 0] 30).alloc _).alloc _
  have r4 : Row (((w.alloc (.cells #[.slice none 0 0] 30)).alloc (.cells #[] 90)).alloc (.cells #[.slice (some ⟨w.heap.size + 1, 0, none⟩) 0 0] 30)) (w.heap.size + 1 + 1) 30 [.slice (some ⟨w.heap.size + 1, 0, none⟩) 0 0] := by
    have := Row.new ((w.alloc (.cells #[.slice none 0 0] 30)).alloc (.cells #[] 90)) [.slice (some ⟨w.heap.size + 1, 0, none⟩) 0 0] 30
    rw [World.size_alloc, World.size_alloc] at this
    exact this
  have hg0 : OwnGr (((w.alloc (.cells #[.slice none 0 0] 30)).alloc (.cells #[] 90)).alloc (.cells #[.slice (some ⟨w.heap.size + 1, 0, none⟩) 0 0] 30)) w.heap.size (.slice (some ⟨w.heap.size + 1, 0, none⟩) 0 0) [] [] := by
    have h1 := OwnGr.made (w.alloc (.cells #[.slice none 0 0] 30)) w.heap.size (by simp)
    rw [World.size_alloc] at h1
    exact h1.below ((Below.refl _ _).alloc (Nat.le_refl _) _)
  have C := Lib.hid (cut_semi s (((w.alloc (.cells #[.slice none 0 0] 30)).alloc (.cells #[] 90)).alloc (.cells #[.slice (some ⟨w.heap.size + 1, 0, none⟩) 0 0] 30)) (by omega))
  have H0 := Lib.hid (And.intro hb0 (And.intro r2 (And.intro r4 hg0)))
  obtain ⟨ps, hps⟩ : ∃ ps, parts 59 s.data.toList = ps := ⟨_, rfl⟩
  rw [hps] at C
  have HPS := Lib.hid hps
  have HSL := Lib.hid hsl
  have hpc := parts_count 59 s.data.toList
  rw [hps, hsl] at hpc
  have HPN : Hid (ps ≠ []) := Lib.hid (hps ▸ parts_ne 59 s.data.toList)
  clear hb0 r2 r4 hg0 hps hsl
  go_enter Tryd.func174, Tryd.ntmps174
  go_wp2_with fail
  refine C.out.mono ?_
  rintro e w1 ⟨vp, rfl, hrow1, hb1⟩
  obtain ⟨gp, op, cp, rfl, hpat⟩ := texts_at hrow1 HPN.out
  have HPAT := Lib.hid hpat
  have HO1 : Hid (RawOut w w1 w.heap.size (w.heap.size + 1 + 1) (.slice (some ⟨w.heap.size + 1, 0, none⟩) 0 0) [] [] (.slice (some ⟨gp, op, none⟩) ps.length cp) ps) := Lib.hid
    ⟨H0.out.2.1.below hb1 H0.out.2.1.lt, H0.out.2.2.1.below hb1 H0.out.2.2.1.lt, by omega, H0.out.2.2.2.below hb1, hrow1.mono H0.out.1.size, H0.out.1.trans (hb1.mono H0.out.1.size)⟩
  clear hrow1 hb1 hpat
  go_wp2
  go_loopw [19] (fun i wr => ∃ (k : Nat) (v : Value) (hs : List Value), i = .int .i64 k ∧ k ≤ ps.length ∧ Hid (RawOut w wr w.heap.size (w.heap.size + 1 + 1) v ((ps.take k).map fun p => scOf (parts 44 p)) hs (.slice (some ⟨gp, op, none⟩) ps.length cp) ps ∧ ∀ p ∈ ps.take k, okSc (parts 44 p) = true)) (fun i _ => ps.length - (intOf i).toNat)
  case atStart => exact ⟨0, _, [], rfl, Nat.zero_le _, Lib.hid ⟨HO1.out, by simp⟩⟩
  case round =>
    obtain ⟨k, v, hs', rfl, hk, hP⟩ := hrel
    obtain ⟨ssk, hss⟩ : ∃ ss, ((ps.take k).map fun p => scOf (parts 44 p)) = ss := ⟨_, rfl⟩
    rw [hss] at hP
    have hsl : ssk.length ≤ 1000001 := by rw [← hss, List.length_map, List.length_take]; omega
    have HSS := Lib.hid hss
    clear hss
    by_cases hlt : k < ps.length
    · obtain ⟨p, hp⟩ : ∃ p, ps[k]? = some p := ⟨_, List.getElem?_eq_getElem hlt⟩
      have x0 := HPAT.out _ _ hP.out.1.psr k p hp
      have hpm : p ∈ parts 59 s.data.toList := by rw [HPS.out]; exact List.mem_of_getElem? hp
      have hpl : p.length ≤ 1000000 := by have := parts_len 59 _ p hpm; have := HSL.out; omega
      have HPM := Lib.hid hpm
      have HTK : Hid (ps.take (k + 1) = ps.take k ++ [p]) := Lib.hid (by rw [List.take_add_one, hp]; rfl)
      have C2 := Lib.hid (fun W => cut_comma p W (by omega))
      have hqc := parts_count 44 p
      have HQL := Lib.hid (fun y hy => parts_len 44 p y hy)
      obtain ⟨qs, hqs⟩ : ∃ qs, parts 44 p = qs := ⟨_, rfl⟩
      rw [hqs] at C2 hqc HQL
      have HQS := Lib.hid hqs
      have HQN : Hid (qs ≠ []) := Lib.hid (hqs ▸ parts_ne 44 p)
      obtain ⟨wo, hwo⟩ : ∃ wo : World, wo = wr := ⟨_, rfl⟩
      rw [← hwo] at hP
      clear hp hpm hqs
      go_wp2_with fail
      refine (C2.out _).mono ?_
      rintro e w2 ⟨vq, rfl, hrow2, hb2⟩
      rw [← hwo] at hrow2 hb2
      obtain ⟨gq, oq, cq, rfl, hqat⟩ := texts_at hrow2 HQN.out
      have HQAT := Lib.hid hqat
      have HIN := Lib.hid (hP.out.1.begin hb2 hrow2)
      rw [← hwo]
      clear hrow2 hb2 hqat hwo x0
      go_wp2
      go_loopw [28] (fun i4 wr4 => ∃ j : Nat, i4 = .int .i64 j ∧ j ≤ qs.length ∧ Hid (RawHd w wo wr4 w.heap.size (w.heap.size + 1 + 1) (wo.heap.size + 1) v ssk hs' (.slice (some ⟨gp, op, none⟩) ps.length cp) ps (.slice (some ⟨gq, oq, none⟩) qs.length cq) qs j)) (fun i4 _ => qs.length - (intOf i4).toNat)
      case atStart => exact ⟨0, rfl, Nat.zero_le _, Lib.hid ⟨⟨-1, _, by simpa using HIN.out, rfl⟩, by simp⟩⟩
      case round =>
        obtain ⟨j, rfl, hj, hQ⟩ := hrel
        obtain ⟨pp, u, hI, hpp⟩ := hQ.out.at'
        obtain ⟨xsj, hxs⟩ : ∃ xs, (qs.tail.take (j - 1)).map itOf = xs := ⟨_, rfl⟩
        rw [hxs] at hI
        obtain ⟨ou, cu, rfl, -⟩ := holdsItems_of_owns hI.its
        have hxl : xsj.length ≤ 1000001 := by rw [← hxs, List.length_map, List.length_take, List.length_tail]; omega
        have HPP := Lib.hid hpp
        have HI := Lib.hid hI
        have HXS := Lib.hid hxs
        clear hpp hI hxs
        by_cases hlt2 : j < qs.length
        · obtain ⟨y, hy⟩ : ∃ y, qs[j]? = some y := ⟨_, List.getElem?_eq_getElem hlt2⟩
          have x1 := HQAT.out _ _ HI.out.qsr j y hy
          have hyl : y.length ≤ 1000000 := by have := HQL.out y (List.mem_of_getElem? hy); omega
          have r70 := HI.out.t7.cell (i := 0) (by rfl)
          have f70 := HI.out.t7.frozen 0
          by_cases h0 : j = 0
          · subst h0
            rw [Nat.add_zero] at x1
            have HIX := Lib.hid (show RawIn w wo _ w.heap.size (w.heap.size + 1 + 1) (wo.heap.size + 1) v ssk hs' pp (.slice ou xsj.length cu) ((qs.tail.take (1 - 1)).map itOf) (.slice (some ⟨gp, op, none⟩) ps.length cp) ps (.slice (some ⟨gq, oq, none⟩) qs.length cq) qs from by
              have h := HI.out
              rw [← HXS.out] at h ⊢
              exact h)
            have HPO : Hid (parOf qs = if numB y = true then numI y else -1) := Lib.hid (by
              unfold parOf
              cases qs with
              | nil => simp at hy
              | cons a b => simp at hy; subst hy; rfl)
            have hq0 : (((0 : Nat) : Int) == 0) = true := rfl
            have CN := Lib.hid (fun W => l13Num_list y W (by omega))
            cases hnb : numB y
            · rw [hnb] at CN HPO
              have HR : Hid (RawHd w wo _ w.heap.size (w.heap.size + 1 + 1) (wo.heap.size + 1) v ssk hs' (.slice (some ⟨gp, op, none⟩) ps.length cp) ps (.slice (some ⟨gq, oq, none⟩) qs.length cq) qs 1) := Lib.hid
                ⟨⟨pp, _, HIX.out, by rw [HPP.out, if_pos rfl, if_neg (by omega), HPO.out]; rfl⟩, by simp⟩
              clear hy
              go_wp2_with fail
              refine (CN.out _).mono ?_
              rintro e w3 ⟨rfl, rfl⟩
              go_wp2
              go_roundw
              case rel => exact ⟨1, by go_num, by omega, HR⟩
              case measure => simp only [intOf]; omega
            · rw [hnb] at CN HPO
              have HR := Lib.hid (HIX.out.set 0 (.int .i64 (numI y)) (p' := numI y) (u' := .slice ou xsj.length cu) (xs' := (qs.tail.take (1 - 1)).map itOf) rfl HIX.out.its)
              have HPN2 : Hid (numI y = parOf qs) := Lib.hid (by rw [HPO.out]; rfl)
              clear hy
              go_wp2_with fail
              refine (CN.out _).mono ?_
              rintro e w3 ⟨rfl, rfl⟩
              go_wp2
              go_roundw
              case rel => exact ⟨1, by go_num, by omega, Lib.hid ⟨⟨numI y, _, HR.out, by rw [if_neg (by omega)]; exact HPN2.out⟩, by simp⟩⟩
              case measure => simp only [intOf]; omega
          · have hyt : qs.tail[j - 1]? = some y := by
              rw [List.getElem?_tail, show j - 1 + 1 = j from by omega]
              exact hy
            have hq0 : (((j : Nat) : Int) == 0) = false := by simp; omega
            have HYM := Lib.hid (List.mem_of_getElem? hyt)
            have HTY : Hid (qs.tail.take (j + 1 - 1) = qs.tail.take (j - 1) ++ [y]) := Lib.hid (by
              rw [show j + 1 - 1 = (j - 1) + 1 from by omega, List.take_add_one, hyt]
              rfl)
            have C5 := Lib.hid (fun W => l1Read_any ⟨y.toArray⟩ (by simp [ByteArray.size]; omega) W)
            have HIT : Hid (readIt ⟨y.toArray⟩ = itOf y) := Lib.hid rfl
            have HOK : Hid (nameB (itOf y).name = okIt y) := Lib.hid rfl
            clear hy hyt r70 f70
            go_wp2_with fail
            refine (C5.out _).mono ?_
            rintro e w3 ⟨rfl, hb3⟩
            rw [HIT.out, HOK.out]
            obtain ⟨it, hit⟩ : ∃ it, itOf y = it := ⟨_, rfl⟩
            rw [hit]
            have HI3 := Lib.hid (HI.out.step hb3)
            have hbA := (Below.refl w3.heap.size w3).alloc (Nat.le_refl _) (.cells #[.int .i64 it.kind, .string it.name, .int .i64 it.scope] 65)
            have HIA := Lib.hid (HI3.out.step hbA)
            have HITE := Lib.hid hit
            clear hb3 hbA hit x1
            cases hok : okIt y
            · have a2 := HIA.out.t2.cell (i := 0) (v := .slice none 0 0) (by rfl)
              have f2 := HIA.out.t2.frozen 0
              have a2' := (HIA.out.t2.set 0 (.slice none 0 0)).cell (i := 0) (v := .slice none 0 0) (by rfl)
              have HBAD := Lib.hid (okGr_bad HPM.out (by rw [HQS.out]; exact HYM.out) hok)
              clear hok
              go_wp2
              refine bodyPost_ret (v := .tuple #[.agg #[.slice none 0 0], .bool false]) (by simp [results, Tryd.results174, go_sem, a2']) rfl (.inr ⟨HBAD.out, rfl, ?_⟩)
              exact HIA.out.below.setCell (Nat.le_refl _) _
            · have HOKY := Lib.hid hok
              have r7 := HIA.out.t7.cell (i := 1) (v := .slice ou xsj.length cu) (by rfl)
              have hus := HIA.out.below.size
              have hwz := HIA.out.base
              obtain ⟨i0, hi0, hz0, hz1, hz2⟩ := info_parts infoItem
              have hwo3 : wo.heap.size ≤ w3.heap.size := by
                have h1 := HI3.out.t7.lt
                have h2 := HI3.out.low7
                omega
              clear hok
              go_wp2_with (at_builtin; refine wpList_append_own _ rfl _ _ 88 rfl wo.heap.size 65 i0 _ 3 32 Tryd.underlying88 hi0 hz0 hz1 hz2 rfl (by decide) _ _ _ rfl (HIA.out.its.alloc _) ⟨w3.heap.size + 1, 0, none⟩ 1 1 [.int .i64 it.kind, .string it.name, .int .i64 it.scope] rfl rfl ?c1 ?c2 ?c3 ?c4 ?c5 ?_)
              case c1 =>
                have := cells_new3 (w3.alloc (.cells #[.int .i64 it.kind, .string it.name, .int .i64 it.scope] 65)) (.int .i64 it.kind) (.string it.name) (.int .i64 it.scope) 65
                rw [World.size_alloc] at this
                exact this
              case c2 => intro u hu; simp only [List.mem_cons, List.not_mem_nil, or_false] at hu; rcases hu with rfl | rfl | rfl <;> rfl
              case c3 => unfold maxLen; omega
              case c4 => omega
              case c5 => simp only [World.size_alloc]; omega
              intro u' w4 hown4 hgrow _
              have hpu := (HIA.out.push hgrow (u' := u') (xs' := (qs.tail.take (j + 1 - 1)).map itOf) (by
                rw [HTY.out, List.map_append, List.length_append, List.map_cons, List.map_nil, HITE.out, itemCells_snoc, HXS.out]
                exact hown4))
              obtain ⟨ou', cu', hu', -⟩ := holdsItems_of_owns hpu.its
              obtain ⟨n', hn'⟩ : ∃ n', ((qs.tail.take (j + 1 - 1)).map itOf).length = n' := ⟨_, rfl⟩
              rw [hn'] at hu'
              subst hu'
              have HPU := Lib.hid hpu
              have g7 : Row w4 (wo.heap.size + 1) 90 [.int .i64 pp, .slice ou xsj.length cu] := (HIA.out.t7.alloc _).grown hgrow (own_row_ne HIA.out.t7 HIA.out.its (by decide))
              have g70 := g7.cell (i := 1) (v := .slice ou xsj.length cu) (by rfl)
              have g7f := g7.frozen 1
              clear hown4 hgrow r7 g7 hpu hn'
              go_wp2
              go_roundw
              case rel => exact ⟨j + 1, by go_num, by omega, Lib.hid ⟨⟨pp, _, HPU.out, by rw [HPP.out, if_neg h0, if_neg (by omega)]⟩, fun z hz => by
                rw [HTY.out, List.mem_append, List.mem_singleton] at hz
                rcases hz with hz | rfl
                · exact hQ.out.oks z hz
                · exact HOKY.out⟩⟩
              case measure => simp only [intOf]; omega
        · obtain rfl : j = qs.length := by omega
          have hqpos : 0 < qs.length := List.length_pos_iff.2 HQN.out
          have hpo : pp = parOf qs := by rw [HPP.out, if_neg (by omega)]
          have htl : qs.tail.take (qs.length - 1) = qs.tail := List.take_of_length_le (by rw [List.length_tail]; omega)
          have HOKS : Hid (okSc (parts 44 p) = true) := Lib.hid (by
            unfold okSc
            rw [HQS.out]
            refine List.all_eq_true.2 fun z hz => hQ.out.oks z ?_
            rw [htl]
            exact hz)
          have HI2 := HI
          have HSC : Hid ((⟨pp, xsj⟩ : Sc) = scOf (parts 44 p)) := Lib.hid (by
            have h := HXS.out
            rw [htl] at h
            rw [HQS.out, hpo, ← h]
            rfl)
          have r4 := HI.out.t4.cell (i := 0) (v := v) (by rfl)
          have r70 := HI.out.t7.cell (i := 0) (v := .int .i64 pp) (by rfl)
          have r71 := HI.out.t7.cell (i := 1) (v := .slice ou xsj.length cu) (by rfl)
          obtain ⟨i0, hi0, hz0, hz1, hz2⟩ := info_parts infoScope
          have hws := HI.out.below.size
          clear hpo htl
          go_wp2_with (at_builtin; refine wpList_append_own _ rfl _ _ 28 rfl w.heap.size 90 i0 _ 2 32 Tryd.underlying28 hi0 hz0 hz1 hz2 rfl (by decide) _ _ _ rfl (HI2.out.gr.row.alloc _) ⟨wr.heap.size, 0, none⟩ 1 1 [.int .i64 pp, .slice ou xsj.length cu] rfl rfl ?d1 ?d2 ?d3 ?d4 ?d5 ?_)
          case d1 => exact cells_new2 _ _ _ _
          case d2 => intro z hz; simp only [List.mem_cons, List.not_mem_nil, or_false] at hz; rcases hz with rfl | rfl <;> rfl
          case d3 => unfold maxLen; omega
          case d4 => omega
          case d5 => simp only [World.size_alloc]; omega
          intro v' w4 hown4 hgrow _
          have HE := Lib.hid ((HI2.out.ended (by omega) hgrow hown4).resolve_right (by omega))
          obtain ⟨ov', cv', hov, -⟩ := HE.out.gr.holds
          obtain ⟨nv, hnv⟩ : ∃ nv, (ssk ++ [(⟨pp, xsj⟩ : Sc)]).length = nv := ⟨_, rfl⟩
          rw [hnv] at hov
          subst hov
          clear hnv
          have g4 : Row w4 (w.heap.size + 1 + 1) 30 [v] := (HI2.out.t4.alloc _).grown hgrow (own_row_ne HI2.out.t4 HI2.out.gr.row (by decide))
          have g40 := g4.cell (i := 0) (v := v) (by rfl)
          have g4f := g4.frozen 0
          clear hown4 hgrow r4 r70 r71 g4
          go_wp2
          go_roundw
          case rel => exact ⟨k + 1, _, _, by go_num, by omega, Lib.hid ⟨by
            have := HE.out
            rw [HSC.out, ← HSS.out] at this
            rw [HTK.out, List.map_append]
            exact this, fun z hz => by
            rw [HTK.out, List.mem_append, List.mem_singleton] at hz
            rcases hz with hz | rfl
            · exact hP.out.2 z hz
            · exact HOKS.out⟩⟩
          case measure => simp only [intOf]; omega
    · obtain rfl : k = ps.length := by omega
      have HGR : Hid (ssk = grOf s.data.toList) := Lib.hid (by rw [← HSS.out, List.take_length, ← HPS.out]; rfl)
      have HOK : Hid (okGr s.data.toList = true) := Lib.hid (by
        unfold okGr
        rw [HPS.out]
        refine List.all_eq_true.2 fun z hz => hP.out.2 z ?_
        rw [List.take_length]
        exact hz)
      have a2 := hP.out.1.t2.cell (i := 0) (v := .slice none 0 0) (by rfl)
      have f2 := hP.out.1.t2.frozen 0
      have a4 := hP.out.1.t4.cell (i := 0) (v := v) (by rfl)
      by_cases h0 : s.size = 0
      · have hse : s.data.toList = [] := List.eq_nil_of_length_eq_zero (by have := HSL.out; omega)
        have hse2 : s.toList.isEmpty = true := by rw [ByteArray.toList_eq, hse]; rfl
        have hse3 : s.toList = [] := by rw [ByteArray.toList_eq, hse]
        have a2' := (hP.out.1.t2.set 0 (.slice none 0 0)).cell (i := 0) (v := .slice none 0 0) (by rfl)
        have HBAD : Hid (¬ ParseOk s.data.toList) := Lib.hid (fun h => h.2.1 hse)
        clear hse h0
        go_wp2
        refine bodyPost_ret (v := .tuple #[.agg #[.slice none 0 0], .bool false]) (by simp [results, Tryd.results174, go_sem, a2']) rfl (.inr ⟨HBAD.out, rfl, ?_⟩)
        exact hP.out.1.below.setCell (Nat.le_refl _) _
      · have hsne : s.data.toList ≠ [] := fun e => h0 (by rw [← HSL.out, e]; rfl)
        have hse2 : s.toList.isEmpty = false := by
          rw [ByteArray.toList_eq]
          cases e : s.data.toList with
          | nil => exact absurd e hsne
          | cons a b => rfl
        have HSNE := Lib.hid hsne
        obtain ⟨ov, cv, rfl, hold⟩ := hP.out.1.gr.holds
        have hfit := fits_grOf s.data.toList (by rw [HSL.out]; exact hs)
        rw [← HGR.out] at hfit
        have CF := Lib.hid (specFormat_any ssk hfit.1 ov cv _ hold)
        clear hsne h0 hold hfit
        go_wp2_with fail
        refine CF.out.mono ?_
        rintro e w5 ⟨T, rfl, hT1, hT2, hb5⟩
        have HO5 := Lib.hid (hP.out.1.step hb5)
        have b2 := HO5.out.t2.cell (i := 0) (v := .slice none 0 0) (by rfl)
        have g2 := HO5.out.t2.frozen 0
        have b4 := HO5.out.t4.cell (i := 0) (v := .slice ov ssk.length cv) (by rfl)
        have HT1 := Lib.hid hT1
        have HT2 := Lib.hid hT2
        clear hT1 hT2 hb5 a2 f2 a4
        by_cases hTs : T = s
        · have hq : (T.toList == s.toList) = true := by rw [hTs]; simp
          have HPO : Hid (ParseOk s.data.toList) := Lib.hid (by
            have hval : Valid ssk := by
              by_cases hv : Valid ssk
              · exact hv
              · have := HT2.out hv
                rw [hTs] at this
                exact absurd (by rw [this]) HSNE.out
            refine ⟨HOK.out, HSNE.out, HGR.out ▸ hval, ?_⟩
            rw [← HGR.out, ← HT1.out hval, hTs])
          have c2 := (HO5.out.t2.set 0 (.slice ov ssk.length cv)).cell (i := 0) (v := .slice ov ssk.length cv) (by rfl)
          clear hTs
          go_wp2
          refine bodyPost_ret (v := .tuple #[.agg #[.slice ov ssk.length cv], .bool true]) (by simp [results, Tryd.results174, go_sem, c2]) rfl (.inl ⟨HPO.out, _, hs', rfl, ?_, ?_⟩)
          · rw [← HGR.out]
            exact HO5.out.gr.other HO5.out.t2 (.inl (by decide)) (by decide) 0 _
          · exact HO5.out.below.setCell (Nat.le_refl _) _
        · have hq : (T.toList == s.toList) = false := by
            rw [beq_eq_false_iff_ne, ByteArray.toList_eq, ByteArray.toList_eq]
            intro e
            apply hTs
            apply ByteArray.ext
            exact Array.toList_inj.1 e
          have HBAD : Hid (¬ ParseOk s.data.toList) := Lib.hid (fun h => by
            apply hTs
            apply ByteArray.ext
            apply Array.toList_inj.1
            have hval : Valid ssk := HGR.out ▸ h.2.2.1
            rw [HT1.out hval, HGR.out]
            exact h.2.2.2)
          have c2 := (HO5.out.t2.set 0 (.slice none 0 0)).cell (i := 0) (v := .slice none 0 0) (by rfl)
          clear hTs
          go_wp2
          refine bodyPost_ret (v := .tuple #[.agg #[.slice none 0 0], .bool false]) (by simp [results, Tryd.results174, go_sem, c2]) rfl (.inr ⟨HBAD.out, rfl, ?_⟩)
          exact HO5.out.below.setCell (Nat.le_refl _) _
set_option maxRecDepth 100000 in
set_option maxHeartbeats 1600000 in
theorem ownGraph_any (ss : List Sc) (oa : Option Addr) (cap : Nat) (hn : ss.length ≤ 1048576) (hn2 : ∀ s ∈ ss, s.items.length < 1048576) (w : World) (hc : HoldsScopes w oa ss) :
    Calls Tryd.prog 61 #[.agg #[.slice oa ss.length cap]] w fun e w' => ∃ v hs, e = .returned (.agg #[v]) ∧ OwnGr w' w.heap.size v ss hs ∧ Below w.heap.size w w' := by
  have hb0 : Below w.heap.size w ((w.alloc (.cells #[.slice oa ss.length cap] 30)).alloc (.cells #[.slice none 0 0] 30)) := ((Below.refl _ _).alloc (Nat.le_refl _) _).alloc (by simp) _
  have R1 := Lib.hid ((Row.new w [.slice oa ss.length cap] 30).alloc (.cells #[.slice none 0 0] 30))
  have R2 : Hid (Row ((w.alloc (.cells #[.slice oa ss.length cap] 30)).alloc (.cells #[.slice none 0 0] 30)) (w.heap.size + 1) 30 [.slice none 0 0]) := Lib.hid (by
    have := Row.new (w.alloc (.cells #[.slice oa ss.length cap] 30)) [.slice none 0 0] 30
    rw [World.size_alloc] at this
    exact this)
  have C := Lib.hid (ownList_any ss oa cap hn hn2 _ (hc.below hb0 (Nat.le_refl _)))
  have HB0 := Lib.hid hb0
  have a1 := R1.out.cell (i := 0) (by rfl)
  clear hc hn hn2 hb0
  go_enter Tryd.func61, Tryd.ntmps61
  go_wp2_with fail
  refine C.out.mono ?_
  rintro e w1 ⟨v, hs, rfl, hg, hb1⟩
  obtain ⟨ov, cv, rfl, -⟩ := hg.holds
  have r1 := R1.out.below hb1 R1.out.lt
  have r2 := R2.out.below hb1 R2.out.lt
  have b1 := r1.cell (i := 0) (by rfl)
  have f1 := r1.frozen 0
  have b2 := r2.cell (i := 0) (by rfl)
  have f2 := r2.frozen 0
  have HG := Lib.hid hg
  have HB := Lib.hid (HB0.out.trans (hb1.mono HB0.out.size))
  have hz : w.heap.size + 1 < w1.heap.size := r2.lt
  have d2 := ((r2.other (a := ⟨w.heap.size, 0, none⟩) (by simp) (.slice ov ss.length cv)).set 0 (.slice ov ss.length cv)).cell (i := 0) (v := .slice ov ss.length cv) (by rfl)
  have HFIN : Hid (OwnGr ((w1.setCell ⟨w.heap.size, 0, none⟩ (.slice ov ss.length cv)).setCell ⟨w.heap.size + 1, 0, none⟩ (.slice ov ss.length cv)) w.heap.size (.slice ov ss.length cv) ss hs) := Lib.hid
    (((hg.lower HB0.out.size).other r1 (.inl (by decide)) (by decide) 0 _).other (r2.other (a := ⟨w.heap.size, 0, none⟩) (by simp) (.slice ov ss.length cv)) (.inl (by decide)) (by decide) 0 _)
  clear hg hb1 r1 r2 a1
  go_wp2
  refine bodyPost_ret (v := .agg #[.slice ov ss.length cv]) (by simp [results, Tryd.results61, go_sem, d2]) rfl ⟨_, hs, rfl, HFIN.out, ?_⟩
  exact (HB.out.setCell (Nat.le_refl _) _).setCell (by simp) _
/-- What ParseGraph answers. -/
def ParseGot (s : List UInt8) (w : World) (e : Ending) (w' : World) : Prop :=
  (ParseOk s ∧ ∃ v hs, e = .returned (.tuple #[.agg #[v], .bool true]) ∧ OwnGr w' w.heap.size v (grOf s) hs ∧ Below w.heap.size w w') ∨
  (¬ ParseOk s ∧ ∃ v hs, e = .returned (.tuple #[.agg #[v], .bool false]) ∧ OwnGr w' w.heap.size v [] hs ∧ Below w.heap.size w w')
theorem holds_nil (w : World) : HoldsScopes w none [] := .inl rfl
set_option maxRecDepth 100000 in
set_option maxHeartbeats 4000000 in
theorem specParse_any (s : ByteArray) (hs : s.size ≤ 1000000) (w : World) : Calls Tryd.prog 172 #[.string s] w (ParseGot s.data.toList w) := by
  have hsl : s.data.toList.length = s.size := by rw [Array.length_toList]; rfl
  have hfit := fits_grOf s.data.toList (by omega)
  have hb0 := (Below.refl w.heap.size w).alloc (Nat.le_refl _) (.cells #[.slice none 0 0] 30)
  have R0 := Lib.hid (Row.new w [.slice none 0 0] 30)
  have C := Lib.hid (rawParse_any s hs (w.alloc (.cells #[.slice none 0 0] 30)))
  have HB0 := Lib.hid hb0
  have HF := Lib.hid hfit
  clear hsl hfit hb0
  go_enter Tryd.func172, Tryd.ntmps172
  go_wp2_with fail
  refine C.out.mono ?_
  rintro e w1 (⟨hok, v, hs1, rfl, hg, hb1⟩ | ⟨hok, rfl, hb1⟩)
  · obtain ⟨ov, cv, rfl, hold⟩ := hg.holds
    have hbA := (Below.refl w1.heap.size w1).alloc (Nat.le_refl _) (.cells #[.slice ov (grOf s.data.toList).length cv] 30)
    have C2 := Lib.hid (ownGraph_any (grOf s.data.toList) ov cv HF.out.2.1 HF.out.2.2 _ (hold.below hbA (Nat.le_refl _)))
    have R1 := Lib.hid ((R0.out.below hb1 R0.out.lt).alloc (.cells #[.slice ov (grOf s.data.toList).length cv] 30))
    have HB1 := Lib.hid ((HB0.out.trans (hb1.mono HB0.out.size)).trans (hbA.mono (Nat.le_trans HB0.out.size hb1.size)))
    have HOK := Lib.hid hok
    clear hg hb1 hold hbA hok
    obtain ⟨gr, hgr⟩ : ∃ gr, grOf s.data.toList = gr := ⟨_, rfl⟩
    rw [hgr] at C2 R1 HB1 ⊢
    have HGRE := Lib.hid hgr
    clear hgr
    go_wp2_with fail
    refine C2.out.mono ?_
    rintro e w2 ⟨v2, hs2, rfl, hg2, hb2⟩
    obtain ⟨ov2, cv2, rfl, -⟩ := hg2.holds
    have R2 := R1.out.below hb2 R1.out.lt
    have a2 := R2.cell (i := 0) (v := .slice none 0 0) (by rfl)
    have f2 := R2.frozen 0
    have d2 := (R2.set 0 (.slice ov2 gr.length cv2)).cell (i := 0) (v := .slice ov2 gr.length cv2) (by rfl)
    have HG := Lib.hid ((hg2.lower HB1.out.size).other R2 (.inl (by decide)) (by decide) 0 (.slice ov2 gr.length cv2))
    have HB2 := Lib.hid (HB1.out.trans (hb2.mono HB1.out.size))
    clear hg2 hb2 R2
    go_wp2
    refine bodyPost_ret (v := .tuple #[.agg #[.slice ov2 gr.length cv2], .bool true]) (by simp [results, Tryd.results172, go_sem, d2]) rfl (.inl ⟨HOK.out, _, hs2, rfl, by rw [HGRE.out]; exact HG.out, ?_⟩)
    exact HB2.out.setCell (Nat.le_refl _) _
  · have hbA := (Below.refl w1.heap.size w1).alloc (Nat.le_refl _) (.cells #[.slice none 0 0] 30)
    have C2 := Lib.hid (ownGraph_any [] none 0 (by simp) (by simp) (w1.alloc (.cells #[.slice none 0 0] 30)) (holds_nil _))
    have R1 := Lib.hid ((R0.out.below hb1 R0.out.lt).alloc (.cells #[.slice none 0 0] 30))
    have HB1 := Lib.hid ((HB0.out.trans (hb1.mono HB0.out.size)).trans (hbA.mono (Nat.le_trans HB0.out.size hb1.size)))
    have HOK := Lib.hid hok
    clear hb1 hbA hok
    go_wp2_with fail
    refine C2.out.mono ?_
    rintro e w2 ⟨v2, hs2, rfl, hg2, hb2⟩
    obtain ⟨ov2, cv2, rfl, -⟩ := hg2.holds
    have R2 := R1.out.below hb2 R1.out.lt
    have a2 := R2.cell (i := 0) (v := .slice none 0 0) (by rfl)
    have f2 := R2.frozen 0
    have d2 := (R2.set 0 (.slice ov2 0 cv2)).cell (i := 0) (v := .slice ov2 0 cv2) (by rfl)
    have HG := Lib.hid ((hg2.lower HB1.out.size).other R2 (.inl (by decide)) (by decide) 0 (.slice ov2 0 cv2))
    have HB2 := Lib.hid (HB1.out.trans (hb2.mono HB1.out.size))
    clear hg2 hb2 R2
    go_wp2
    refine bodyPost_ret (v := .tuple #[.agg #[.slice ov2 0 cv2], .bool false]) (by simp [results, Tryd.results172, go_sem, d2]) rfl (.inr ⟨HOK.out, _, hs2, rfl, HG.out, ?_⟩)
    exact HB2.out.setCell (Nat.le_refl _) _
theorem ownsRow_set {w : World} {B n size g cap : Nat} {e : TypeId} {xs : List Value} (h : w.ownsRow B e size (.slice (some ⟨g, 0, none⟩) n cap) n xs) {i : Nat} (_hi : i < xs.length) (z : Value) : (w.setCell ⟨g, i, none⟩ z).ownsRow B e size (.slice (some ⟨g, 0, none⟩) n cap) n (xs.set i z) := by
  obtain ⟨hl, h2 | ⟨g', cap', cur, hv, hB, hh, h3, h4, h5, h6⟩⟩ := h
  · exact absurd h2.1 (by simp)
  · simp only [Value.slice.injEq, Option.some.injEq, Addr.mk.injEq, true_and, and_true] at hv
    obtain ⟨rfl, rfl⟩ := hv
    refine ⟨by rw [List.length_set]; exact hl, .inr ⟨g, cap, cur.setIfInBounds i z, rfl, hB, ?_, h3, h4, by simpa using h5, ?_⟩⟩
    · simp [World.setCell, Array.getElem?_modify, hh]
    · rw [Array.toList_setIfInBounds, List.take_set, h6]
end Go.Proofs.YtadpgoiiopfnnaaDoor
