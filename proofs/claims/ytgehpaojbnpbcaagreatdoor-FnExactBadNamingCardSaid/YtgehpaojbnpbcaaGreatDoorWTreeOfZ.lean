/-
  The walk of impl's treeOf: a graph that is not valid gives an error; a valid one its tree. Conditions: the argument's memory holds the graph; the package-level errors hold errors.
-/
import Derived.Test.YtgehpaojbnpbcaaGreatDoorTreeOfZ
import Derived.Test.YtgehpaojbnpbcaaGreatDoorOpenGraphZ
namespace Go.Proofs.YtgehpaojbnpbcaaGreatDoor
open Go Go.RowKit Go.Maps
attribute [local go_sem] Oper.semAt_some
/-- The package-level errors of trees hold errors. -/
structure TreeErrs (w : World) : Prop where
  size : 8 ≤ w.heap.size
  scopes : IsErr w 3
  parent : IsErr w 5
  items : IsErr w 4
  item : IsErr w 6
  module : IsErr w 7
theorem TreeErrs.below {w w' : World} {B : Nat} (h : TreeErrs w) (hb : Below B w w') (hB : 8 ≤ B) : TreeErrs w' where
  size := Nat.le_trans h.size hb.size
  scopes := h.scopes.below hb (Nat.lt_of_lt_of_le (by decide) hB)
  parent := h.parent.below hb (Nat.lt_of_lt_of_le (by decide) hB)
  items := h.items.below hb (Nat.lt_of_lt_of_le (by decide) hB)
  item := h.item.below hb (Nat.lt_of_lt_of_le (by decide) hB)
  module := h.module.below hb (Nat.lt_of_lt_of_le (by decide) hB)
/-- The tree of a graph in memory. -/
structure TreeIs (w : World) (B T M1 M2 : Nat) (v : Value) (ds : List Nd) (ss : List Sc) : Prop where
  tree : Tree w B T M1 M2 v ds
  hold : NodesHold w ds ss
  pars : Pars ds ss
  items : ∃ n, w.ownsMap Tryz.prog 59 itemR M1 n (itemsD (placed 0 ss))
  mods : ∃ n, w.ownsMap Tryz.prog 3 placeR M2 n (modsD (placed 0 ss))
  low1 : B ≤ M1
  low2 : B ≤ M2
def TreeGot (ss : List Sc) (w : World) (e : Ending) (w' : World) : Prop :=
  (¬ Valid ss ∧ (∃ tp p, e = .returned (.tuple #[.pointer none, .iface tp p])) ∧ Below w.heap.size w w') ∨
  (Valid ss ∧ ∃ T M1 M2 v ds, e = .returned (.tuple #[.pointer (some ⟨T, 0, none⟩), .nilIface]) ∧ Below w.heap.size w w' ∧ TreeIs w' w.heap.size T M1 M2 v ds ss)
/-- What holds at the head of the first loop. -/
structure Loop1 (w wr : World) (ss : List Sc) (oa : Option Addr) (cap k : Nat) (v : Value) (ds : List Nd) : Prop where
  below : Below w.heap.size w wr
  gbox : Row wr w.heap.size 28 [.slice oa ss.length cap]
  r1 : Row wr (w.heap.size + 1) 124 [.pointer none]
  r2 : Row wr (w.heap.size + 2) 71 [.nilIface]
  m1 : wr.ownsMap Tryz.prog 59 itemR (w.heap.size + 3) 0 (.map [])
  m2 : wr.ownsMap Tryz.prog 3 placeR (w.heap.size + 4) 0 (.map [])
  tbox : Row wr (w.heap.size + 6) 124 [.pointer (some ⟨w.heap.size + 5, 0, none⟩)]
  tree : Tree wr (w.heap.size + 5) (w.heap.size + 5) (w.heap.size + 3) (w.heap.size + 4) v ds
  len : ds.length = k
  hold : NodesHold w ds (ss.take k)
  pars : Pars ds (ss.take k)
  good : ∀ i s, (ss.take k)[i]? = some s → scopeB i s = true
theorem NodesHold.below {w w' : World} {B : Nat} {ds : List Nd} {ss : List Sc} (h : NodesHold w ds ss) (hb : Below B w w') (hB : w.heap.size ≤ B) : NodesHold w' ds ss where
  len := h.len
  items := fun i d s hd hs => by
    obtain ⟨oi, ci, h1, h2⟩ := h.items i d s hd hs
    exact ⟨oi, ci, h1, h2.below hb hB⟩
theorem Loop1.start {ss : List Sc} {oa : Option Addr} {cap : Nat} {w : World} :
    Loop1 w (((((((w.alloc (.cells #[.slice oa ss.length cap] 28)).alloc (.cells #[.pointer none] 124)).alloc (.cells #[.nilIface] 71)).alloc (.map #[] 0)).alloc (.map #[] 0)).alloc (.cells #[.slice none 0 0, .map (some (w.heap.size + 3)), .map (some (w.heap.size + 4))] 180)).alloc (.cells #[.pointer (some ⟨w.heap.size + 5, 0, none⟩)] 124)) ss oa cap 0 (.slice none 0 0) [] where
  below := by repeat (first | exact Below.refl _ _ | refine Below.alloc ?_ (by simp <;> omega) _)
  gbox := ((((((Row.new w [.slice oa ss.length cap] 28).alloc _).alloc _).alloc _).alloc _).alloc _).alloc _
  r1 := by
    have := Row.new (w.alloc (.cells #[.slice oa ss.length cap] 28)) [.pointer none] 124
    simp only [World.size_alloc] at this
    exact ((((this.alloc _).alloc _).alloc _).alloc _).alloc _
  r2 := by
    have := Row.new ((w.alloc (.cells #[.slice oa ss.length cap] 28)).alloc (.cells #[.pointer none] 124)) [.nilIface] 71
    simp only [World.size_alloc] at this
    exact (((this.alloc _).alloc _).alloc _).alloc _
  m1 := by
    have := World.ownsMap_made (((w.alloc (.cells #[.slice oa ss.length cap] 28)).alloc (.cells #[.pointer none] 124)).alloc (.cells #[.nilIface] 71)) Tryz.prog 59 itemR
    simp only [World.size_alloc] at this
    exact ((this.alloc _).alloc _).alloc _
  m2 := by
    have := World.ownsMap_made ((((w.alloc (.cells #[.slice oa ss.length cap] 28)).alloc (.cells #[.pointer none] 124)).alloc (.cells #[.nilIface] 71)).alloc (.map #[] 0)) Tryz.prog 3 placeR
    simp only [World.size_alloc] at this
    exact (this.alloc _).alloc _
  tbox := by
    have := Row.new ((((((w.alloc (.cells #[.slice oa ss.length cap] 28)).alloc (.cells #[.pointer none] 124)).alloc (.cells #[.nilIface] 71)).alloc (.map #[] 0)).alloc (.map #[] 0)).alloc (.cells #[.slice none 0 0, .map (some (w.heap.size + 3)), .map (some (w.heap.size + 4))] 180)) [.pointer (some ⟨w.heap.size + 5, 0, none⟩)] 124
    simp only [World.size_alloc] at this
    exact this
  tree :=
    { low := Nat.le_refl _
      box := by
        have := Row.new (((((w.alloc (.cells #[.slice oa ss.length cap] 28)).alloc (.cells #[.pointer none] 124)).alloc (.cells #[.nilIface] 71)).alloc (.map #[] 0)).alloc (.map #[] 0)) [.slice none 0 0, .map (some (w.heap.size + 3)), .map (some (w.heap.size + 4))] 180
        simp only [World.size_alloc] at this
        exact this.alloc _
      ptrs := World.ownsRow_nil _ _ _ _
      node := fun i d hd => by simp at hd
      inj := by simp
      pars := fun i d hd => by simp at hd }
  len := rfl
  hold := ⟨rfl, fun i d s hd => by simp at hd⟩
  pars := fun i d s hd => by simp at hd
  good := fun i s hs => by simp at hs
/-- A node more. -/
theorem Loop1.step {w wr w2 : World} {ss : List Sc} {oa oi : Option Addr} {cap ci k b : Nat} {v v' : Value} {ds : List Nd} {s : Sc} {o : Obj} (h : Loop1 w wr ss oa cap k v ds) (hs : ss[k]? = some s) (hc : HoldsItems w oi s.items) (hg : scopeB ds.length s = true)
    (hb : Below (w.heap.size + 5) (wr.alloc o) w2) (hr : ∀ g t vs, Row (wr.alloc o) g t vs → t ≠ 180 → t ≠ 191 → Row w2 g t vs) (ht : Tree w2 (w.heap.size + 5) (w.heap.size + 5) (w.heap.size + 3) (w.heap.size + 4) v' (ds ++ [⟨b, newPar ds s.parent, .slice oi s.items.length ci⟩])) :
    Loop1 w w2 ss oa cap (k + 1) v' (ds ++ [⟨b, newPar ds s.parent, .slice oi s.items.length ci⟩]) := by
  have hz : w.heap.size + 5 < wr.heap.size := h.tree.box.lt
  have hbw : Below w.heap.size wr w2 := ((Below.refl w.heap.size wr).alloc (by omega) o).trans (hb.mono (by omega))
  have hbw5 : Below (w.heap.size + 5) wr w2 := ((Below.refl (w.heap.size + 5) wr).alloc (by omega) o).trans hb
  have htk : ss.take (k + 1) = ss.take k ++ [s] := by rw [List.take_add_one, hs]; rfl
  have hgood : ∀ i t, (ss.take k ++ [s])[i]? = some t → scopeB i t = true := by
    intro i t hit
    by_cases hik : i < k
    · rw [List.getElem?_append_left (by have := (List.getElem?_eq_some_iff.1 hs).1; simp; omega)] at hit
      exact h.good i t hit
    · have hl : (ss.take k).length = k := by have := (List.getElem?_eq_some_iff.1 hs).1; simp; omega
      rw [List.getElem?_append_right (by omega), hl] at hit
      have hil := (List.getElem?_eq_some_iff.1 hit).1
      simp only [List.length_cons, List.length_nil] at hil
      obtain rfl : i = k := by omega
      simp at hit
      subst hit
      rw [← h.len]
      exact hg
  have hl : ds.length = (ss.take k).length := h.hold.len
  exact {
    below := h.below.trans hbw
    gbox := h.gbox.same (hbw5.block _ (by omega)) |> fun r => r
    r1 := h.r1.same (hbw5.block _ (by omega))
    r2 := h.r2.same (hbw5.block _ (by omega))
    m1 := by
      obtain ⟨es, clock, hh, r⟩ := h.m1
      exact ⟨es, clock, (hbw5.block _ (by omega)).trans hh, r⟩
    m2 := by
      obtain ⟨es, clock, hh, r⟩ := h.m2
      exact ⟨es, clock, (hbw5.block _ (by omega)).trans hh, r⟩
    tbox := hr _ _ _ (h.tbox.alloc o) (by decide) (by decide)
    tree := ht
    len := by simp [h.len]
    hold := by
      rw [htk]
      refine ⟨by simp [h.hold.len], fun i d t hd hit => ?_⟩
      by_cases hik : i < ds.length
      · rw [List.getElem?_append_left hik] at hd
        rw [List.getElem?_append_left (by omega)] at hit
        exact h.hold.items i d t hd hit
      · have hil := (List.getElem?_eq_some_iff.1 hd).1
        simp only [List.length_append, List.length_cons, List.length_nil] at hil
        obtain rfl : i = ds.length := by omega
        rw [List.getElem?_append_right (by omega)] at hd hit
        rw [hl] at hit
        simp at hd hit
        subst hd hit
        exact ⟨oi, ci, rfl, hc⟩
    pars := by rw [htk]; exact h.pars.snoc hl hgood rfl
    good := by rw [htk]; exact hgood }
/-- What turns two maps alone leaves all cells. -/
theorem Turns.cells {w W : World} {M1 M2 n1 n2 : Nat} {D1 D2 : DataW Unit} {k1 k2 : TypeId} {R1 R2 : Value → Option (DataW Unit × List MemPlace)} (h : Turns w W M1 M2) (m1 : w.ownsMap Tryz.prog k1 R1 M1 n1 D1) (m2 : w.ownsMap Tryz.prog k2 R2 M2 n2 D2) : CellsKept w.heap.size w W where
  size := h.size
  block := fun g vs t fr hg hh => by
    refine (h.rest g hg ?_ ?_).trans hh
    · rintro rfl
      obtain ⟨es, clock, h1, _⟩ := m1
      rw [hh] at h1
      cases h1
    · rintro rfl
      obtain ⟨es, clock, h1, _⟩ := m2
      rw [hh] at h1
      cases h1
theorem keepsOthers_of_below {w W : World} (h : Below w.heap.size w W) : KeepsOthers w W :=
  ⟨h.size, fun k _ hk _ => (h.block k (Array.getElem?_eq_some_iff.1 hk).1).trans hk⟩
theorem Turns.below {w W : World} {M1 M2 B : Nat} (h : Turns w W M1 M2) (h1 : B ≤ M1) (h2 : B ≤ M2) (hB : B ≤ w.heap.size) : Below B w W :=
  ⟨h.os, h.tape, h.output, h.size, fun g hg => h.rest g (by omega) (by omega) (by omega)⟩
theorem Turns.refl (w : World) (M1 M2 : Nat) : Turns w w M1 M2 := ⟨rfl, rfl, rfl, Nat.le_refl _, fun _ _ _ _ => rfl⟩
theorem Turns.keepsFrom {w W : World} {M1 M2 B : Nat} (h : Turns w W M1 M2) (h1 : M1 < B) (h2 : M2 < B) : KeepsFrom B w W :=
  ⟨h.size, fun k _ hk ho _ => (h.rest k (Array.getElem?_eq_some_iff.1 ho).1 (by omega) (by omega)).trans ho⟩
def scopesOf (l : List (Nat × Nat × It)) : List (Nat × It) := l.map fun q => (q.1, q.2.2)
/-- What holds when some items have come. -/
structure Run2 (w0 : World) (ss : List Sc) (M1 M2 : Nat) (l : List (Nat × Nat × It)) (W : World) : Prop where
  turns : Turns w0 W M1 M2
  items : W.ownsMap Tryz.prog 59 itemR M1 l.length (itemsD l)
  mods : W.ownsMap Tryz.prog 3 placeR M2 l.length (modsD l)
  good : goodItems ss (scopesOf l)
theorem Turns.grown {w0 A B : World} {M1 M2 n : Nat} {row : Option Nat} (h : Turns w0 A M1 M2) (hg : A.grownBy B row) (hn : w0.heap.size ≤ n) (hr : ∀ r, row = some r → n ≤ r) : Turns w0 B M1 M2 :=
  ⟨hg.os.trans h.os, hg.tape.trans h.tape, hg.output.trans h.output, Nat.le_trans h.size hg.size, fun g hlt h1 h2 => (hg.block g (Nat.lt_of_lt_of_le hlt h.size) (fun e => by have := hr g e.symm; omega)).trans (h.rest g hlt h1 h2)⟩
theorem Run2.own {w0 : World} {ss : List Sc} {M1 M2 n : Nat} {α : Type} (f : α → List (Nat × Nat × It)) (hn : w0.heap.size ≤ n) (h1 : M1 < n) (h2 : M2 < n) : OwnFrom n (fun pre W => Run2 w0 ss M1 M2 (f pre) W) :=
  fun _ _ _ _ hs hg hr => ⟨hs.turns.grown hg hn (fun r e => (hr r e).1), hs.items.kept hg (fun e => by have := (hr _ e.symm).1; omega), hs.mods.kept hg (fun e => by have := (hr _ e.symm).1; omega), hs.good⟩
/-- An item more. -/
theorem Run2.step {w0 W W' : World} {ss : List Sc} {M1 M2 : Nat} {l : List (Nat × Nat × It)} {q : Nat × Nat × It} (h : Run2 w0 ss M1 M2 l W) (ha : ItemAdded W W' M1 M2 l.length l.length (itemsD l) (modsD l) (q.1 : Int) (q.2.1 : Int) q.2.2) (hg : goodItems ss (scopesOf (l ++ [q])))
    : Run2 w0 ss M1 M2 (l ++ [q]) W' where
  turns := h.turns.trans ha.turns
  items := by rw [itemsD_snoc, List.length_append]; exact ha.items
  mods := by rw [modsD_snoc, List.length_append]; exact ha.mods
  good := hg
/-- What holds where an item is not good. -/
structure Bad2 (w0 : World) (ss : List Sc) (M1 M2 : Nat) (l : List (Nat × Nat × It)) (b : Nat) (W : World) : Prop where
  bad : ¬ goodItems ss (scopesOf l)
  below : Below b w0 W
  r1 : Row W (b + 1) 124 [.pointer none]
  r2 : ∃ tp p, Row W (b + 2) 71 [.iface tp p]
theorem Row.kept_cells {A B : World} {row : Option Nat} {g : Nat} {t : TypeId} {vs : List Value} (h : Row A g t vs) (hg : A.grownBy B row) (hr : ∀ r, row = some r → ∃ o : Obj, A.heap[r]? = some o ∧ o.isCells = false) : Row B g t vs :=
  h.grown hg (fun e => by obtain ⟨o, ho, hc⟩ := hr g e.symm; unfold Row at h; rw [h] at ho; cases ho; cases hc)
theorem below_grown_far {w0 A B : World} {b n : Nat} {row : Option Nat} (h : Below b w0 A) (hg : A.grownBy B row) (hb : b ≤ w0.heap.size) (hn : b ≤ n) (hr : ∀ r, row = some r → n ≤ r) : Below b w0 B :=
  h.grown hg (Nat.le_trans hb h.size) (fun r e => Nat.le_trans hn (hr r e))
theorem Bad2.own {w0 : World} {ss : List Sc} {M1 M2 n b : Nat} {α : Type} (f : α → List (Nat × Nat × It)) (c : Code) (hb : b ≤ w0.heap.size) (hn : b ≤ n) : OwnFrom n (fun pre W => c = .ret ∧ Bad2 w0 ss M1 M2 (f pre) b W) :=
  fun _ _ _ _ hs hg hr => ⟨hs.1, hs.2.bad, below_grown_far hs.2.below hg hb hn (fun r e => (hr r e).1), hs.2.r1.kept_cells hg (fun r e => (hr r e).2), by obtain ⟨tp, p, h⟩ := hs.2.r2; exact ⟨tp, p, h.kept_cells hg (fun r e => (hr r e).2)⟩⟩
theorem placed_length {i : Nat} : ∀ {ss : List Sc}, (∀ s ∈ ss, s.items.length ≤ 5) → (placed i ss).length ≤ 5 * ss.length
  | [], _ => by simp [placed]
  | s :: r, h => by
    have h1 := h s List.mem_cons_self
    have h2 := placed_length (i := i + 1) (ss := r) fun t ht => h t (List.mem_cons_of_mem _ ht)
    simp only [placed, List.length_append, List.length_map, List.length_zipIdx, List.length_cons]
    omega
theorem scopesOf_placed (ss : List Sc) : scopesOf (placed 0 ss) = flat 0 ss := placed_flat 0 ss
theorem Tree.lower {w : World} {B B' T M1 M2 : Nat} {v : Value} {ds : List Nd} (h : Tree w B T M1 M2 v ds) (hB : B' ≤ B) : Tree w B' T M1 M2 v ds where
  low := Nat.le_trans hB h.low
  box := h.box
  ptrs := by
    obtain ⟨hl, h2 | ⟨g, cap, cur, hv, hg, hr⟩⟩ := h.ptrs
    · exact ⟨hl, .inl h2⟩
    · exact ⟨hl, .inr ⟨g, cap, cur, hv, Nat.le_trans hB hg, hr⟩⟩
  node := fun i d hd => ⟨Nat.le_trans hB (h.node i d hd).1, (h.node i d hd).2⟩
  inj := h.inj
  pars := h.pars
/-- Behind the stores of the results and the end of the loop the tree lies as it lay. -/
theorem TreeIs.leave {W W' : World} {B b D T M1 M2 : Nat} {v : Value} {ds : List Nd} {ss : List Sc} (h : TreeIs W B T M1 M2 v ds ss) (hB : b ≤ B) (hw : ∀ g, B ≤ g → g ≠ D → W'.heap[g]? = W.heap[g]?) (hD : W.heap[D]? = some (.deferred (some [])))
    (hk : NodesHold W' ds ss) : TreeIs W' b T M1 M2 v ds ss where
  tree := (h.tree.same fun g hg ⟨vs, t, hh⟩ => hw g hg (fun e => by rw [e, hD] at hh; cases hh)).lower hB
  hold := hk
  pars := h.pars
  items := by
    obtain ⟨n, es, clock, hh, r⟩ := h.items
    exact ⟨n, es, clock, (hw _ h.low1 (fun e => by rw [e, hD] at hh; cases hh)).trans hh, r⟩
  mods := by
    obtain ⟨n, es, clock, hh, r⟩ := h.mods
    exact ⟨n, es, clock, (hw _ h.low2 (fun e => by rw [e, hD] at hh; cases hh)).trans hh, r⟩
  low1 := Nat.le_trans hB h.low1
  low2 := Nat.le_trans hB h.low2
theorem scopesOf_snoc (l : List (Nat × Nat × It)) (q : Nat × Nat × It) : scopesOf (l ++ [q]) = scopesOf l ++ [(q.1, q.2.2)] := by simp [scopesOf]
theorem modsP_scopes (l : List (Nat × Nat × It)) : modsP l = modsOf ((scopesOf l).map Prod.snd) := by unfold modsP scopesOf; rw [List.map_map]; rfl
theorem wf_of_i64 {z : Int} (h : Sg.I64 z) : (Lit.int .i64 z).wf = true := WalkArith.wf_i64 (by unfold Sg.I64 at h; omega)
/-- Whether an item may be added says whether the items so far are good. -/
theorem okItem_good {ds : List Nd} {ss : List Sc} (hl : ds.length = ss.length) (hinj : (ds.map Nd.blk).Nodup) (hp : Pars ds ss) (hs : ∀ i s, ss[i]? = some s → scopeB i s = true) {l : List (Nat × Nat × It)} (hg : goodItems ss (scopesOf l)) {q : Nat × Nat × It} {d : Nd} (hd : ds[q.1]? = some d) :
    okItem ds d (modsD l) q.2.2 = true ↔ goodItems ss (scopesOf (l ++ [q])) := by
  rw [okItem_iff hl hinj hp hs hd (xs := (scopesOf l).map Prod.snd) (fun m => by rw [modsD_has, modsP_scopes]), scopesOf_snoc]
  constructor
  · rintro ⟨h1, h2, h3⟩; exact hg.snoc h1 h2 h3
  · intro h; exact h.last
set_option maxRecDepth 100000 in
set_option maxHeartbeats 4000000 in
theorem treeOf_any (ss : List Sc) (oa : Option Addr) (cap : Nat) (w : World) (hn0 : ss.length ≤ 1048576) (hn : ∀ s ∈ ss, s.items.length ≤ 2 ^ 20) (hI : I64Scopes ss) (hc : HoldsScopes w oa ss) (hE : TreeErrs w) :
    Calls Tryz.prog 86 #[.agg #[.slice oa ss.length cap]] w (TreeGot ss w) := by
  refine (callsIn_wide (n := 6)).1 ?_
  refine callsIn_of_wp_marks Tryz.func86 rfl trivial ?_ rfl
  simp only [Tryz.ntmps86, List.size_toArray, List.length_cons, List.length_nil, Nat.reduceAdd, Nat.reduceSub, Array.replicate_succ, Array.replicate_zero, List.push_toArray, List.append_toArray, List.nil_append, List.cons_append]
  by_cases h1 : ss.length < 1
  · have k1 : decide (((ss.length : Nat) : Int) < 1) = true := by simp; omega
    obtain ⟨tp, p, he⟩ := hE.scopes
    have HNV : Hid (¬ Valid ss) := Lib.hid (fun hv => by have := hv.count; omega)
    have hb3 : Below w.heap.size w (((w.alloc (.cells #[.slice oa ss.length cap] 28)).alloc (.cells #[.pointer none] 124)).alloc (.cells #[.nilIface] 71)) := ((((Below.refl _ _).alloc (Nat.le_refl _) _).alloc (by simp) _).alloc (by simp; omega) _)
    have he3 := (hb3.cell (p := ⟨3, 0, none⟩) (World.block_lt_of_cell? w _ he)).trans he
    have HB3 := Lib.hid hb3
    clear hn0 hn hI hc hE he hb3
    gi_wp2
    gi_region
    all_goals gi_wp2
    all_goals (refine ⟨_, by simp [results, Tryz.results86, go_sem], .inl ⟨HNV.out, ⟨tp, p, rfl⟩, ?_⟩⟩)
    all_goals exact ((((Below.refl _ _).alloc (Nat.le_refl _) _).alloc (by simp) _).alloc (by simp; omega) _).drew
  · by_cases h6 : 6 < ss.length
    · have k1 : decide (((ss.length : Nat) : Int) < 1) = false := by simp; omega
      have k6 : decide (((ss.length : Nat) : Int) > 6) = true := by simp; omega
      obtain ⟨tp, p, he⟩ := hE.scopes
      have HNV : Hid (¬ Valid ss) := Lib.hid (fun hv => by have := hv.count; omega)
      have hb3 : Below w.heap.size w (((w.alloc (.cells #[.slice oa ss.length cap] 28)).alloc (.cells #[.pointer none] 124)).alloc (.cells #[.nilIface] 71)) := ((((Below.refl _ _).alloc (Nat.le_refl _) _).alloc (by simp) _).alloc (by simp; omega) _)
      have he3 := (hb3.cell (p := ⟨3, 0, none⟩) (World.block_lt_of_cell? w _ he)).trans he
      have HB3 := Lib.hid hb3
      clear hn0 hn hI hc hE he hb3
      gi_wp2
      gi_region
      all_goals gi_wp2
      all_goals (refine ⟨_, by simp [results, Tryz.results86, go_sem], .inl ⟨HNV.out, ⟨tp, p, rfl⟩, ?_⟩⟩)
      all_goals exact ((((Below.refl _ _).alloc (Nat.le_refl _) _).alloc (by simp) _).alloc (by simp; omega) _).drew
    · have k1 : decide (((ss.length : Nat) : Int) < 1) = false := by simp; omega
      have k6 : decide (((ss.length : Nat) : Int) > 6) = false := by simp; omega
      have hmm := @run_makeMap Tryz.prog
      have HN := Lib.hid hn
      have HI := Lib.hid hI
      have HC := Lib.hid hc
      have HE := Lib.hid hE
      have H6 : Hid (1 ≤ ss.length ∧ ss.length ≤ 6) := Lib.hid ⟨by omega, by omega⟩
      clear hn0 hn hI hc hE
      gi_wp2
      have hl6 : ss.length < 1000 := by omega
      clear k1 k6 hmm h1 h6
      gi_loopw [29] (fun i wr => ∃ (k : Nat) (v : Value) (ds : List Nd), i = .int .i64 k ∧ k ≤ ss.length ∧ Loop1 w wr ss oa cap k v ds) (fun i _ => ss.length - (intOf i).toNat)
      case atStart => exact ⟨0, _, _, rfl, Nat.zero_le _, Loop1.start⟩
      case round =>
        obtain ⟨k, v, ds, rfl, hk, hL⟩ := hrel
        have g0 := hL.gbox.cell (i := 0) (by rfl)
        have t0 : wr.cell? ⟨w.heap.size + 1 + 1 + 1 + 1 + 1 + 1, 0, none⟩ = some (.pointer (some ⟨w.heap.size + 5, 0, none⟩)) := hL.tbox.cell (i := 0) (by rfl)
        by_cases hlt : k < ss.length
        · obtain ⟨s, hs⟩ : ∃ s, ss[k]? = some s := ⟨_, List.getElem?_eq_getElem hlt⟩
          obtain ⟨b, off, rfl, hb, hcell⟩ := HC.out.at (by omega)
          obtain ⟨oi, ci, a0, a1, hci⟩ := hcell k s hs
          have a0' := (hL.below.cell (p := ⟨b, off + k * 2, none⟩) hb).trans a0
          have a1' := (hL.below.cell (p := ⟨b, off + k * 2 + 1, none⟩) hb).trans a1
          have HL := Lib.hid hL
          have HS := Lib.hid hs
          have HCI := Lib.hid hci
          have HEr := Lib.hid (HE.out.below hL.below HE.out.size)
          have hTa := hL.tree.below ((Below.refl wr.heap.size wr).alloc (Nat.le_refl _) (.cells #[.int .i64 s.parent, .slice oi s.items.length ci] 67)) (Nat.le_refl _)
          have hEa := HEr.out.below ((Below.refl wr.heap.size wr).alloc (Nat.le_refl _) (.cells #[.int .i64 s.parent, .slice oi s.items.length ci] 67)) HEr.out.size
          have C := Lib.hid ((callsIn_wide (n := 5)).2 (addNode_any hTa (by have := hL.len; have := H6.out; omega) hEa.items hEa.parent (by have := hL.tree.box.lt; simp; omega) s.parent s.items (HN.out s (List.mem_of_getElem? hs)) oi ci))
          have ta := (((Below.refl wr.heap.size wr).alloc (Nat.le_refl _) (.cells #[.int .i64 s.parent, .slice oi s.items.length ci] 67)).cell (p := ⟨w.heap.size + 1 + 1 + 1 + 1 + 1 + 1, 0, none⟩) hL.tbox.lt).trans t0
          clear hcell hci a0 a1 hTa hEa hL hs t0
          gi_wp2_with fail
          refine ⟨trivial, ?_⟩
          gi_at_call 110
          refine C.out.mono ?_
          rintro e w2 (⟨hg, ⟨tp, p, rfl⟩, hb2⟩ | ⟨hg, rfl, hb2, hr2, v', b', ht2⟩)
          · have hz := HL.out.tree.box.lt
            have hbX : Below (w.heap.size + 5) wr w2 := ((Below.refl (w.heap.size + 5) wr).alloc (by omega) _).trans hb2
            have R1 := Lib.hid (HL.out.r1.same (hbX.block _ (by omega)))
            have R2 := Lib.hid (HL.out.r2.same (hbX.block _ (by omega)))
            have c1 : w2.cell? ⟨w.heap.size + 1, 0, none⟩ = some (.pointer none) := R1.out.cell (by rfl)
            have f1 : w2.frozen? ⟨w.heap.size + 1, 0, none⟩ = false := R1.out.frozen 0
            have c2 : w2.cell? ⟨w.heap.size + 1 + 1, 0, none⟩ = some .nilIface := R2.out.cell (by rfl)
            have f2 : w2.frozen? ⟨w.heap.size + 1 + 1, 0, none⟩ = false := R2.out.frozen 0
            have HNV : Hid (¬ Valid ss) := Lib.hid (fun hv => by have := hv.scopes k s HS.out; rw [← HL.out.len, hg] at this; cases this)
            have HB : Hid (Below w.heap.size w w2) := Lib.hid (HL.out.below.trans (hbX.mono (by omega)))
            clear hb2 hbX hz
            gi_wp2
            refine ⟨_, by simp [results, Tryz.results86, go_sem, c1, c2], .inl ⟨HNV.out, ⟨tp, p, rfl⟩, (HB.out.setCell (by simp) _).setCell (by simp; omega) _⟩⟩
          · have HL2 := Lib.hid (HL.out.step HS.out HCI.out hg hb2 hr2 ht2)
            clear hb2 hr2 ht2
            gi_wp2
            exact ⟨⟨k + 1, _, _, by go_num, by omega, HL2.out⟩, by simp only [intOf]; omega⟩
        · obtain rfl : k = ss.length := by omega
          have HL := Lib.hid hL
          clear hL
          gi_wp2_with fail
          refine ⟨trivial, ?_⟩
          gi_at_call 93
          refine ((callsIn_wide (n := 5)).2 (all_any (w.heap.size + 5) wr)).mono ?_
          rintro e w1 ⟨rfl, rfl⟩
          gi_wp2
          have hgood : ∀ i s, ss[i]? = some s → scopeB i s = true := fun i s h => HL.out.good i s (by rw [List.take_length]; exact h)
          have hholdA : NodesHold w ds ss := by have := HL.out.hold; rw [List.take_length] at this; exact this
          have hparsA : Pars ds ss := by have := HL.out.pars; rw [List.take_length] at this; exact this
          have hsm : Small ss := ⟨hl6, fun s hs => by obtain ⟨i, hi⟩ := List.mem_iff_getElem?.1 hs; have := scope_items (hgood i s hi); omega⟩
          have hne : ds ≠ [] := fun e => by have h1 := HL.out.len; have h2 := H6.out; rw [e, List.length_nil] at h1; omega
          have hz := HL.out.tbox.lt
          have hholdW : NodesHold wr ds ss := hholdA.below HL.out.below (Nat.le_refl _)
          have hBx : Below wr.heap.size wr (wr.alloc (.cells #[.pointer (some ⟨w.heap.size + 5, 0, none⟩)] 124)) := (Below.refl _ _).alloc (Nat.le_refl _) _
          have hN30 : (placed 0 ss).length < 1000 := by have := placed_length (i := 0) (ss := ss) (fun s hs => by obtain ⟨i, hi⟩ := List.mem_iff_getElem?.1 hs; exact scope_items (hgood i s hi)); have := H6.out; omega
          have HG := Lib.hid hgood
          have HHA := Lib.hid hholdA
          have HPA := Lib.hid hparsA
          have HSM := Lib.hid hsm
          refine wpIn_rangeFunc_ownH rfl (by omega) (gf := 115) (lb := #[.pointer (some ⟨wr.heap.size, 0, none⟩)]) rfl trivial (enters_of Tryz.func115 (by kernel_rfl) rfl)
            (all_stops 5 (by omega) wr.heap.size (w.heap.size + 5) (w.heap.size + 5) (w.heap.size + 3) (w.heap.size + 4) v ds ss wr _ HL.out.tree hholdW hne hl6 hsm.items (.of_below hBx) (by simp)) CellsKept.trans (fun W l o o' _ h1 h2 h3 => cellsKept_b (w := wr) W l o o' (by simp at *; omega) h1 h2 h3) (Below.refl _ _) (fun _ => rfl)
            (fun pre W => Run2 wr ss (w.heap.size + 3) (w.heap.size + 4) (pre.map Subtype.val) W)
            (fun c pre W => c = .ret ∧ Bad2 w ss (w.heap.size + 3) (w.heap.size + 4) (pre.map Subtype.val) w.heap.size W)
            (Run2.own _ (by simp) (by simp; omega) (by simp; omega))
            (fun c => Bad2.own _ c (Nat.le_refl _) (by simp; omega))
            ⟨(Turns.refl _ _ _).trans (.of_below hBx), HL.out.m1.alloc _, HL.out.m2.alloc _, by simp [scopesOf]; exact goodItems.nil ss⟩
            (fun x a' W => ∃ Bp Bx, Row W Bp 59 [.int .i64 (x.1.1 : Int), .int .i64 (x.1.2.1 : Int)] ∧ Row W Bx 137 [.int .i64 x.1.2.2.kind, .string x.1.2.2.name, .int .i64 x.1.2.2.scope] ∧
              a' = { tmps := #[.agg #[.slice oa ss.length cap], .pointer (some ⟨w.heap.size, 0, none⟩), .pointer (some ⟨w.heap.size + 1, 0, none⟩), .pointer (some ⟨w.heap.size + 1 + 1, 0, none⟩), .pointer (some ⟨w.heap.size + 1 + 1 + 1 + 1 + 1 + 1, 0, none⟩), undef, u6, u7,
                .pointer (some ⟨Bp, 0, none⟩), .pointer (some ⟨Bx, 0, none⟩), undef, .pointer (some ⟨w.heap.size, 0, none⟩), .slice oa ss.length cap, .int .i64 ss.length, .bool false, .bool false, .pointer (some ⟨w.heap.size, 0, none⟩), .slice oa ss.length cap, .int .i64 ss.length, .bool false, .bool false, undef,
                .map (some (w.heap.size + 1 + 1 + 1)), .map (some (w.heap.size + 1 + 1 + 1 + 1)), .agg #[.slice none 0 0, .map (some (w.heap.size + 1 + 1 + 1)), .map (some (w.heap.size + 1 + 1 + 1 + 1))], .pointer (some ⟨w.heap.size + 1 + 1 + 1 + 1 + 1, 0, none⟩), .pointer (some ⟨w.heap.size, 0, none⟩), .slice oa ss.length cap, .int .i64 ss.length, .int .i64 ss.length, .bool false,
                u31, u32, u33, u34, u35, u36, u37, u38, u39, .pointer (some ⟨w.heap.size + 5, 0, none⟩), .func (.func 115) #[] #[.pointer (some ⟨wr.heap.size, 0, none⟩)], .agg #[.int .i64 (x.1.1 : Int), .int .i64 (x.1.2.1 : Int)], .agg #[.int .i64 x.1.2.2.kind, .string x.1.2.2.name, .int .i64 x.1.2.2.scope], undef, undef, undef, undef, undef, undef, undef, undef], defers := [] })
            (fun x a' _ X Y row hs hg hr => by obtain ⟨Bp, Bx, h1, h2, h3⟩ := hs; exact ⟨Bp, Bx, h1.kept_cells hg (fun r e => (hr r e).2), h2.kept_cells hg (fun r e => (hr r e).2), h3⟩)
            ?assign ?body ?done ?stop
          case assign =>
            rintro l pre x W K hi hK
            dsimp only [elArgs]
            gi_wp2
            have ha : Below W.heap.size W ((W.alloc (.cells #[.int .i64 (x.1.1 : Int), .int .i64 (x.1.2.1 : Int)] 59)).alloc (.cells #[.int .i64 x.1.2.2.kind, .string x.1.2.2.name, .int .i64 x.1.2.2.scope] 137)) := ((Below.refl _ _).alloc (Nat.le_refl _) _).alloc (by simp) _
            refine hK _ _ (((KeepsOthers.alloc _ _).trans (KeepsOthers.alloc _ _)).from _) ((CellsKept.of_below ha).mono hi.turns.size) ⟨hi.turns.trans (.of_below ha), (hi.items.alloc _).alloc _, (hi.mods.alloc _).alloc _, hi.good⟩ ⟨W.heap.size, W.heap.size + 1, ?_, ?_, rfl⟩
            · exact (Row.new W [.int .i64 (x.1.1 : Int), .int .i64 (x.1.2.1 : Int)] 59).alloc _
            · have := Row.new (W.alloc (.cells #[.int .i64 (x.1.1 : Int), .int .i64 (x.1.2.1 : Int)] 59)) [.int .i64 x.1.2.2.kind, .string x.1.2.2.name, .int .i64 x.1.2.2.scope] 137
              rw [World.size_alloc] at this
              exact this
          case body =>
            rintro l pre x a' W hl _ hi ⟨Bp, Bx, hp, hx, rfl⟩ hlen
            obtain ⟨⟨i, j, it⟩, hmem⟩ := x
            have HQ : Hid ((⟨(i, j, it), hmem⟩ : El ss).1 = (i, j, it)) := Lib.hid rfl
            dsimp only at hp hx ⊢
            obtain ⟨s, -, hs, hj⟩ := mem_placed.1 hmem
            simp only [Nat.sub_zero] at hs hj
            have hlt := HSM.out.lt hmem
            simp only at hlt
            obtain ⟨d, hd⟩ : ∃ d, ds[i]? = some d := ⟨_, List.getElem?_eq_getElem (by have := (List.getElem?_eq_some_iff.1 hs).1; rw [HHA.out.len]; exact this)⟩
            have hck := hi.turns.cells HL.out.m1 HL.out.m2
            have hT := HL.out.tree.kept hck (Nat.le_refl _)
            have hEw := HE.out
            have hBW : Below w.heap.size w W := HL.out.below.trans (hi.turns.below (by omega) (by omega) HL.out.below.size)
            have hEW := hEw.below hBW hEw.size
            have ct : W.cell? ⟨w.heap.size + 1 + 1 + 1 + 1 + 1 + 1, 0, none⟩ = some (.pointer (some ⟨w.heap.size + 5, 0, none⟩)) := hck.cell HL.out.tbox.lt t0
            have p0 := hp.cell (i := 0) (by rfl)
            have p1 := hp.cell (i := 1) (by rfl)
            have x0 := hx.cell (i := 0) (by rfl)
            have x1 := hx.cell (i := 1) (by rfl)
            have x2 := hx.cell (i := 2) (by rfl)
            have hwf : (Lit.int .i64 it.scope).wf = true := wf_of_i64 ((HI.out s (List.mem_of_getElem? hs)).2 it (List.mem_of_getElem? hj)).2
            have hok := okItem_good HHA.out.len HL.out.tree.inj HPA.out HG.out hi.good (q := (i, j, it)) hd
            have hlen' : (pre.map Subtype.val).length < 1000 := by rw [List.length_map]; omega
            have C := Lib.hid ((callsIn_wide (n := 3)).2 (addItem_any hT hi.items hi.mods (by omega) hlen' hlen' hEW.item hEW.module i j d hd hlt.2 hlt.1 it hwf))
            have HI2 := Lib.hid hi
            have HOK := Lib.hid hok
            have HCK := Lib.hid hck
            have HBW := Lib.hid hBW
            have r1 := HL.out.r1.same (w' := W) (by refine (hi.turns.rest _ (Nat.lt_of_lt_of_le HL.out.r1.lt (Nat.le_refl _)) (by omega) (by omega)))
            have r2 := HL.out.r2.same (w' := W) (by refine (hi.turns.rest _ (Nat.lt_of_lt_of_le HL.out.r2.lt (Nat.le_refl _)) (by omega) (by omega)))
            have R1 := Lib.hid r1
            have R2 := Lib.hid r2
            have hlts : Hid (wr.heap.size ≤ W.heap.size) := Lib.hid hi.turns.size
            clear hp hx hs hj hd hck hT hEw hEW hBW hwf hok hi r1 r2 hlt hlen'
            gi_wp2_with fail
            refine ⟨trivial, ?_⟩
            gi_at_call 111
            refine (CallsIn.inRound l C.out).mono ?_
            rintro e w2 (⟨hbad, ⟨tp, p, rfl⟩, hb2⟩ | ⟨hgd, rfl, ha⟩)
            · have hlt1 := R1.out.lt
              have hlt2 := R2.out.lt
              have Q1 := Lib.hid (R1.out.below hb2 hlt1)
              have Q2 := Lib.hid (R2.out.below hb2 hlt2)
              have c1 : w2.cell? ⟨w.heap.size + 1, 0, none⟩ = some (.pointer none) := Q1.out.cell (by rfl)
              have f1 : w2.frozen? ⟨w.heap.size + 1, 0, none⟩ = false := Q1.out.frozen 0
              have c2 : w2.cell? ⟨w.heap.size + 1 + 1, 0, none⟩ = some .nilIface := Q2.out.cell (by rfl)
              have f2 : w2.frozen? ⟨w.heap.size + 1 + 1, 0, none⟩ = false := Q2.out.frozen 0
              have HB2 := Lib.hid hb2
              clear hb2
              have HNG : Hid (¬ goodItems ss (scopesOf (pre.map Subtype.val ++ [(i, j, it)]))) := Lib.hid (fun h => by rw [HOK.out.2 h] at hbad; cases hbad)
              clear hbad
              gi_wp2
              have hX : Below w.heap.size w ((w2.setCell ⟨w.heap.size + 1, 0, none⟩ (.pointer none)).setCell ⟨w.heap.size + 1 + 1, 0, none⟩ (.iface tp p)) := ((HBW.out.trans (HB2.out.mono HBW.out.size)).setCell (by simp) _).setCell (by simp; omega) _
              refine ⟨((keepsOthers_of_below HB2.out).trans ((KeepsOthers.setCell _ _ _).trans (KeepsOthers.setCell _ _ _))).from _, rfl, by rw [List.map_append]; exact HNG.out, hX, ?_, tp, p, ?_⟩
              · exact (Q1.out.set 0 _).other (by simp) _
              · exact (Q2.out.other (by simp) _).set 0 _
            · have HRN := Lib.hid (HI2.out.step ha (HOK.out.1 hgd))
              have HT2 := Lib.hid ha.turns
              have HC2 := Lib.hid (ha.turns.cells HI2.out.items HI2.out.mods)
              clear ha hgd
              gi_wp2
              exact ⟨HT2.out.keepsFrom (by simp; omega) (by simp; omega), HC2.out.mono hlts.out, by show Run2 _ _ _ _ (List.map Subtype.val (pre ++ [_])) _; rw [List.map_append]; exact HRN.out⟩
          case done =>
            rintro D xs W hD hS hi hK
            have hck := hi.turns.cells HL.out.m1 HL.out.m2
            have ct : W.cell? ⟨w.heap.size + 1 + 1 + 1 + 1 + 1 + 1, 0, none⟩ = some (.pointer (some ⟨w.heap.size + 5, 0, none⟩)) := hck.cell HL.out.tbox.lt t0
            have Q1 := Lib.hid (HL.out.r1.same (w' := W) (hi.turns.rest _ HL.out.r1.lt (by omega) (by omega)))
            have Q2 := Lib.hid (HL.out.r2.same (w' := W) (hi.turns.rest _ HL.out.r2.lt (by omega) (by omega)))
            have c1 : W.cell? ⟨w.heap.size + 1, 0, none⟩ = some (.pointer none) := Q1.out.cell (by rfl)
            have f1 : W.frozen? ⟨w.heap.size + 1, 0, none⟩ = false := Q1.out.frozen 0
            have c2 : W.cell? ⟨w.heap.size + 1 + 1, 0, none⟩ = some .nilIface := Q2.out.cell (by rfl)
            have f2 : W.frozen? ⟨w.heap.size + 1 + 1, 0, none⟩ = false := Q2.out.frozen 0
            have HI2 := Lib.hid hi
            have HCK := Lib.hid hck
            have HBW : Hid (Below w.heap.size w W) := Lib.hid (HL.out.below.trans (hi.turns.below (by omega) (by omega) HL.out.below.size))
            have HD : Hid (wr.heap.size < D) := Lib.hid (by simp at hD; omega)
            have HK := Lib.hid hK
            have HSS := Lib.hid hS
            clear hi hck hD hK hS
            gi_wp2
            have hK2 : ((W.setCell ⟨w.heap.size + 1, 0, none⟩ (.pointer (some ⟨w.heap.size + 5, 0, none⟩))).setCell ⟨w.heap.size + 1 + 1, 0, none⟩ .nilIface).heap[D]? = some (.deferred (some [])) := ((KeepsOthers.setCell _ _ _).trans (KeepsOthers.setCell _ _ _)).same D _ HK.out rfl
            refine ⟨by simp, .inl ⟨_, _, rfl, run_takeDeferred hK2, ?_⟩⟩
            have q1 := (((Q1.out.set 0 (.pointer (some ⟨w.heap.size + 5, 0, none⟩))).other (a := ⟨w.heap.size + 1 + 1, 0, none⟩) (by simp) .nilIface).same (World.putObj_heap_other (r := D) (o := .deferred none) (fun e => by have := HD.out; have := HL.out.r1.lt; omega))).cell (i := 0) (by rfl)
            have q2 := (((Q2.out.other (a := ⟨w.heap.size + 1, 0, none⟩) (by simp) (.pointer (some ⟨w.heap.size + 5, 0, none⟩))).set 0 .nilIface).same (World.putObj_heap_other (r := D) (o := .deferred none) (fun e => by have := HD.out; have := HL.out.r2.lt; omega))).cell (i := 0) (by rfl)
            have hEnd : Below w.heap.size w (((W.setCell ⟨w.heap.size + 1, 0, none⟩ (.pointer (some ⟨w.heap.size + 5, 0, none⟩))).setCell ⟨w.heap.size + 1 + 1, 0, none⟩ .nilIface).putObj D (.deferred none)) := by
              have h1 := (HBW.out.setCell (p := ⟨w.heap.size + 1, 0, none⟩) (by simp) (.pointer (some ⟨w.heap.size + 5, 0, none⟩))).setCell (p := ⟨w.heap.size + 1 + 1, 0, none⟩) (by simp; omega) .nilIface
              exact h1.trans (belowK_b (w := w) (Nat.le_refl _) _ D _ _ (by have := HD.out; have := HL.out.r1.lt; omega) hK2 rfl rfl)
            have hV : Valid ss := ⟨H6.out, HG.out, by have := HI2.out.good; rw [HSS.out, scopesOf_placed] at this; exact this⟩
            refine ⟨_, by simp [results, Tryz.results86, go_sem, q1, q2], .inr ⟨hV, w.heap.size + 5, w.heap.size + 3, w.heap.size + 4, v, ds, rfl, hEnd, ?_⟩⟩
            refine TreeIs.leave (W := W) (B := w.heap.size + 3) (D := D) ⟨(HL.out.tree.kept HCK.out (Nat.le_refl _)).lower (by omega), HHA.out.below HBW.out (Nat.le_refl _), HPA.out, ?_, ?_, Nat.le_refl _, by omega⟩ (by omega) ?_ HK.out (HHA.out.below hEnd (Nat.le_refl _))
            · have := HI2.out.items; rw [HSS.out] at this; exact ⟨_, this⟩
            · have := HI2.out.mods; rw [HSS.out] at this; exact ⟨_, this⟩
            · intro g hg hgD
              rw [World.putObj_heap_other hgD, Below.heap_setCell _ _ _ _ (show g ≠ w.heap.size + 1 + 1 by omega), Below.heap_setCell _ _ _ _ (show g ≠ w.heap.size + 1 by omega)]
          case stop =>
            rintro D c pre W hD hpre ⟨rfl, hb⟩ hK
            obtain ⟨tp, p, r2⟩ := hb.r2
            have HD : Hid (wr.heap.size < D) := Lib.hid (by simp at hD; omega)
            have HBB := Lib.hid hb
            clear hD hb
            gi_wp2
            refine ⟨by simp, .inl ⟨_, _, rfl, run_takeDeferred hK, ?_⟩⟩
            have q1 := (HBB.out.r1.same (World.putObj_heap_other (r := D) (o := .deferred none) (fun e => by have := HD.out; have := HL.out.r1.lt; omega))).cell (i := 0) (by rfl)
            have q2 := (r2.same (World.putObj_heap_other (r := D) (o := .deferred none) (fun e => by have := HD.out; have := HL.out.r2.lt; omega))).cell (i := 0) (by rfl)
            have hNV : ¬ Valid ss := fun hv => by
              obtain ⟨t, ht⟩ := hpre
              have h1 := hv.items
              rw [← scopesOf_placed, ← ht] at h1
              simp only [scopesOf, List.map_append] at h1
              exact HBB.out.bad h1.ahead
            exact ⟨_, by simp [results, Tryz.results86, go_sem, q1, q2], .inl ⟨hNV, ⟨tp, p, rfl⟩, HBB.out.below.trans (belowK_b (w := w) (Nat.le_refl _) _ D _ _ (by have := HD.out; have := HL.out.r1.lt; omega) hK rfl rfl)⟩⟩
end Go.Proofs.YtgehpaojbnpbcaaGreatDoor
