/-
  The walk of impl's PlacesOf. Conditions: the argument's memory holds the graph; the package-level errors hold errors. The walks of impl's (*lookup).meaning, resolutionOf and (*resolution).state. Conditions: the argument's memory holds the graph; the package-level errors hold errors. The walks of the given l3MeantBy and l3Table. Conditions: the argument's memory holds the graph, and the table what its scopes import. The walk of the given l3Table. Condition: the argument's memory holds the graph. The walks of ImportTarget, the given one's and impl's. Conditions: the argument's memory holds the graph; the package-level errors hold errors. The walks of impl's (*resolution).state, ResolveItem and StateOf. Conditions: the argument's memory holds the graph; the package-level errors hold errors. The walks of the given l3Imported, l3From, l3Way, l3LookUp, ImportedScopes, ImportedOf and LookUp. Condition: the argument's memory holds the graph. The walks of impl's ItemsIn and IsSound. Conditions: the argument's memory holds the graph; the package-level errors hold errors. The walks of the given l4Resolve, ResolveItem and StateOf. Condition: the argument's memory holds the graph. The walks of the given l4Items, ItemsIn and IsSound. Conditions: the argument's memory holds the graph; it has at most 2^20 items. What is visible from a scope, as plain data: the letters for which so many declarations are found, and what is hidden where a declaration stands. Plain facts. The declarations that are seen from a scope, as plain data; the walks of the given l5In, l5Sees and SeenFrom. Condition: the argument's memory holds the graph. Where the items of a graph without an item stand; which items mean something else then, as plain data. Plain facts. The walks of the given l6After and PlaceAfter and of impl's PlaceAfter: where a place stands behind a removal. No conditions. Where the items of a graph with an item more stand. What items mean something else between two graphs, as plain data. Plain facts. What items mean something else when one is removed, added or moved: the same lists told in two ways. Plain facts.
-/
import Derived.Test.YtadpgoiiopfnnaaDoorWSpecPls
import Derived.Test.YtadpgoiiopfnnaaDoorWImplChain
import Derived.Test.YtadpgoiiopfnnaaDoorJLookA
import Derived.Test.YtadpgoiiopfnnaaDoorRegionRound
import Derived.Laws.RangeString
import Derived.Laws.Runes
import Derived.Maps.AppendAt
import Derived.Test.YtadpgoiiopfnnaaDoorRmvA
import Derived.Test.YtadpgoiiopfnnaaDoorBase
import Derived.Test.YtadpgoiiopfnnaaDoorEditA
namespace Go.Proofs.YtadpgoiiopfnnaaDoor
open Go Go.RowKit Go.Maps
attribute [local go_sem] Oper.semAt_some
/-- One place appended, as the operation runs it where no order is drawn. -/
theorem append_place0 {W : World} {base k : Nat} {v : Value} {xs : List Value} (hrow : W.ownsRow base 34 2 v k xs) (x y : Int) (hk : k < 1000000) (hbase : base ≤ W.heap.size) (ty : TypeId) :
    ∃ v' w', (Builtin.append_ #[46, 46] ty #[v, .slice (some ⟨W.heap.size, 0, none⟩) 1 1]).run Tryd.prog (W.alloc (.cells #[.int .i64 x, .int .i64 y] 34)) = .ok v' w' ∧ w'.ownsRow base 34 2 v' (k + 1) (xs ++ [.int .i64 x, .int .i64 y]) ∧ (W.alloc (.cells #[.int .i64 x, .int .i64 y] 34)).grownBy w' v.ownBlock := by
  obtain ⟨i0, hi, hz0, hz1, hz2⟩ := info_parts infoPl
  obtain ⟨v', w', hrun, h2, h3, _, _⟩ := run_append_own_at (P := Tryd.prog) (W.alloc (.cells #[.int .i64 x, .int .i64 y] 34)) base 46 ty 34 i0 (.agg #[.int .i64 0, .int .i64 0]) 2 16 Tryd.underlying46 hi hz0 hz1 hz2 rfl (by decide) v k xs (hrow.alloc _) ⟨W.heap.size, 0, none⟩ 1 1 [.int .i64 x, .int .i64 y] rfl (cells_new2 W _ _ _)
    (by intro u hu; simp only [List.mem_cons, List.mem_nil_iff, or_false] at hu; rcases hu with rfl | rfl <;> rfl) (by unfold maxLen; omega) (by omega) (by show base ≤ (W.alloc _).heap.size; simp; omega)
  exact ⟨v', w', hrun, h2, h3⟩
def elPl {ss : List Sc} (kind : Int) (pre : List (El ss)) : List (Int × Int) := plsOf kind (pre.map Subtype.val)
end Go.Proofs.YtadpgoiiopfnnaaDoor
namespace Go.Proofs.YtadpgoiiopfnnaaDoor
open Go Go.RowKit Go.Maps
attribute [local go_sem] Oper.semAt_some
attribute [local go_sem ↓] field_kind field_name field_scope field_places
theorem cell_kept {w w' : World} {b o : Nat} {v : Value} (hk : CellsKept w.heap.size w w') (h : w.cell? ⟨b, o, none⟩ = some v) : w'.cell? ⟨b, o, none⟩ = some v := hk.cell (World.block_lt_of_cell? _ _ h) h
theorem ownsRow_one {W : World} {base : Nat} (hb : base ≤ W.heap.size) (i j : Int) : (W.alloc (.cells #[.int .i64 i, .int .i64 j] 34)).ownsRow base 34 2 (.slice (some ⟨W.heap.size, 0, none⟩) 1 1) 1 [.int .i64 i, .int .i64 j] :=
  ⟨by simp, .inr ⟨_, 1, _, rfl, hb, heap_alloc_new W _, Nat.le_refl _, by unfold maxLen; omega, by simp, by simp⟩⟩
set_option maxRecDepth 100000 in
set_option maxHeartbeats 4000000 in
theorem meaning_any {ss : List Sc} (hv : Valid ss) {w : World} {B L M T M1 M2 : Nat} {v : Value} {ds : List Nd} (hL : LookW w B L M T M1 M2 v ds ss) {i j : Nat} {x : It} (hq : (i, j, x) ∈ placed 0 ss) :
    Calls Tryd.prog 129 #[.pointer (some ⟨L, 0, none⟩), .agg #[.int .i64 (i : Int), .int .i64 (j : Int)], .agg #[.int .i64 x.kind, .string x.name, .int .i64 x.scope]] w (PlsLeft (meanIt ss (i, j, x)) w B L M T M1 M2 v ds ss) := by
  obtain ⟨c, hsc, hx⟩ := placed_at hq
  dsimp only at hsc hx
  have hb0 : Below w.heap.size w ((w.alloc (.cells #[.int .i64 (i : Int), .int .i64 (j : Int)] 34)).alloc (.cells #[.int .i64 x.kind, .string x.name, .int .i64 x.scope] 65)) := ((Below.refl _ _).alloc (Nat.le_refl _) _).alloc (by simp) _
  have HL1 := Lib.hid (hL.left.step hb0)
  have HS1 := Lib.hid hb0.size
  have RP := Lib.hid ((Row.new w [.int .i64 (i : Int), .int .i64 (j : Int)] 34).alloc (.cells #[.int .i64 x.kind, .string x.name, .int .i64 x.scope] 65))
  have RX : Hid (Row ((w.alloc (.cells #[.int .i64 (i : Int), .int .i64 (j : Int)] 34)).alloc (.cells #[.int .i64 x.kind, .string x.name, .int .i64 x.scope] 65)) (w.heap.size + 1) 65 [.int .i64 x.kind, .string x.name, .int .i64 x.scope]) := Lib.hid (by
    have := Row.new (w.alloc (.cells #[.int .i64 (i : Int), .int .i64 (j : Int)] 34)) [.int .i64 x.kind, .string x.name, .int .i64 x.scope] 65
    rw [World.size_alloc] at this
    exact this)
  have hsl : i < ss.length := (List.getElem?_eq_some_iff.1 hsc).1
  have hdl := hL.tree.hold.len
  obtain ⟨d, hd⟩ : ∃ d, ds[i]? = some d := ⟨_, List.getElem?_eq_getElem (by omega)⟩
  have HV := Lib.hid hv
  have HSX := Lib.hid (And.intro hsc hx)
  have HD := Lib.hid hd
  have x0 := RX.out.cell (i := 0) (by rfl)
  have x1 := RX.out.cell (i := 1) (by rfl)
  have p0 := RP.out.cell (i := 0) (by rfl)
  have p1 := RP.out.cell (i := 1) (by rfl)
  clear hv hL hq hsc hx hb0
  by_cases hk2 : x.kind = 2
  · have hq2 : (x.kind == 2) = true := by simpa using hk2
    have HE : Hid (meanIt ss (i, j, x) = (lookP ss i x.name).places) := Lib.hid (by unfold meanIt; rw [if_pos hk2])
    obtain ⟨g, cap', rfl, hgB, hg, hslot⟩ := HL1.out.look.tree.tree.slot (by intro e; rw [e] at hd; simp at hd)
    have s0 := hslot i d hd
    unfold Nd.ptr at s0
    have t0 := HL1.out.look.tree.tree.box.cell (i := 0) (by rfl)
    have l0 := HL1.out.look.box.cell (i := 0) (by rfl)
    have HLd := Lib.hid (HL1.out.step ((Below.refl _ _).drew))
    have C := Lib.hid (find_node HV.out HLd.out.look HD.out (fun m _ => target_any HV.out m) x.name)
    have hi0 : (0 : Int) ≤ (i : Int) := by omega
    have hi1 : (i : Int) < (ds.length : Int) := by omega
    clear hk2 hslot hd
    go_enter Tryd.func129, Tryd.ntmps129
    go_wp2
    generalize (w.alloc (.cells #[.int .i64 (i : Int), .int .i64 (j : Int)] 34)).alloc (.cells #[.int .i64 x.kind, .string x.name, .int .i64 x.scope] 65) = W at *
    go_region_held3 (fun w' => w'.cell? ⟨L, 0, none⟩ = some (.pointer (some ⟨T, 0, none⟩)) ∧ w'.cell? ⟨T, 0, none⟩ = some (.slice (some ⟨g, 0, none⟩) ds.length cap') ∧ w'.cell? ⟨g, i, none⟩ = some (.pointer (some ⟨d.blk, 0, none⟩)) ∧ w'.cell? ⟨w.heap.size, 0, none⟩ = some (.int .i64 (i : Int)) ∧ w'.cell? ⟨w.heap.size + 1, 1, none⟩ = some (.string x.name))
      (first | exact ⟨l0, t0, s0, p0, x1⟩ | exact ⟨cell_drew l0, cell_drew t0, cell_drew s0, cell_drew p0, cell_drew x1⟩ | exact ⟨cell_kept hc4 (cell_drew l0), cell_kept hc4 (cell_drew t0), cell_kept hc4 (cell_drew s0), cell_kept hc4 (cell_drew p0), cell_kept hc4 (cell_drew x1)⟩)
      (first | (go_at_call 95; refine C.out.mono ?_; rintro e w4 ⟨u4, rfl, hr4, hl4⟩; obtain ⟨o4, c4, rfl⟩ := ownsRow_slice hr4; have hc4 := hl4.turns.cellsM HLd.out.look.memo))
    all_goals go_wp2
    all_goals go_ret
    all_goals exact ⟨_, rfl, by rw [HE.out]; exact ownsRow_lower hr4 (Nat.le_trans HLd.out.turns.size (Nat.le_refl _)), HLd.out.trans hl4⟩
  · have hq2 : (x.kind == 2) = false := by simpa using hk2
    by_cases hk3 : x.kind = 3
    · have hq3 : (x.kind == 3) = true := by simpa using hk3
      have HE : Hid (meanIt ss (i, j, x) = meantP ss i x.name) := Lib.hid (by unfold meanIt; rw [if_neg hk2, if_pos hk3])
      have C := Lib.hid (meantBy_any HV.out HL1.out.look HSX.out.1 HSX.out.2 (fun m _ => target_any HV.out m))
      clear hk2 hk3 hd
      go_enter Tryd.func129, Tryd.ntmps129
      go_wp2_with fail
      refine C.out.mono ?_
      rintro e w4 ⟨u4, rfl, hr4, hl4⟩
      have HR4 := Lib.hid (ownsRow_lower hr4 HS1.out)
      have HL4 := Lib.hid (HL1.out.trans hl4)
      clear hr4 hl4
      go_wp2
      go_ret
      exact ⟨_, rfl, by rw [HE.out]; exact HR4.out, HL4.out⟩
    · have hq3 : (x.kind == 3) = false := by simpa using hk3
      have HE : Hid (meanIt ss (i, j, x) = [((i : Int), (j : Int))]) := Lib.hid (by unfold meanIt; rw [if_neg hk2, if_neg hk3])
      clear hk2 hk3 hd
      have hO := ownsRow_one (W := (w.alloc (.cells #[.int .i64 (i : Int), .int .i64 (j : Int)] 34)).alloc (.cells #[.int .i64 x.kind, .string x.name, .int .i64 x.scope] 65)) HS1.out (i : Int) (j : Int)
      rw [World.size_alloc, World.size_alloc] at hO
      have HO := Lib.hid hO
      clear hO
      go_enter Tryd.func129, Tryd.ntmps129
      go_wp2
      go_ret
      exact ⟨_, rfl, by rw [HE.out]; exact HO.out, HL1.out.step ((Below.refl _ _).alloc (Nat.le_refl _) _)⟩
theorem TreeIs.kept2 {w w' : World} {B T M1 M2 : Nat} {v : Value} {ds : List Nd} {ss : List Sc} (h : TreeIs w B T M1 M2 v ds ss) (hk : CellsKept w.heap.size w w') (h1 : w'.heap[M1]? = w.heap[M1]?) (h2 : w'.heap[M2]? = w.heap[M2]?) : TreeIs w' B T M1 M2 v ds ss where
  tree := h.tree.kept hk (Nat.le_refl _)
  hold := h.hold.keptC hk (Nat.le_refl _)
  pars := h.pars
  items := by obtain ⟨n, hm⟩ := h.items; exact ⟨n, ownsMap_same hm h1⟩
  mods := by obtain ⟨n, hm⟩ := h.mods; exact ⟨n, ownsMap_same hm h2⟩
  low1 := h.low1
  low2 := h.low2
theorem Row.cells {w w' : World} {g : Nat} {t : TypeId} {vs : List Value} (h : Row w g t vs) (hk : CellsKept w.heap.size w w') : Row w' g t vs := hk.block g _ _ _ h.lt h
theorem LookW.kept2 {w w' : World} {B L M T M1 M2 : Nat} {v : Value} {ds : List Nd} {ss : List Sc} (h : LookW w B L M T M1 M2 v ds ss) (hk : CellsKept w.heap.size w w') (h1 : w'.heap[M1]? = w.heap[M1]?) (h2 : w'.heap[M2]? = w.heap[M2]?) (hm : Memo w' M ss) : LookW w' B L M T M1 M2 v ds ss :=
  ⟨h.tree.kept2 hk h1 h2, h.box.cells hk, hm, h.ne1, h.ne2⟩
theorem ResW.kept2 {w w' : World} {B R T M1 M2 MR : Nat} {v : Value} {ds : List Nd} {ss : List Sc} {l : List Ent} (h : ResW w B R T M1 M2 MR v ds ss l) (hk : CellsKept w.heap.size w w') (h1 : w'.heap[M1]? = w.heap[M1]?) (h2 : w'.heap[M2]? = w.heap[M2]?) (h3 : w'.heap[MR]? = w.heap[MR]?) : ResW w' B R T M1 M2 MR v ds ss l :=
  ⟨h.tree.kept2 hk h1 h2, h.box.cells hk, h.mean.kept hk h3, h.full⟩
theorem ResW.lower {w : World} {B B' R T M1 M2 MR : Nat} {v : Value} {ds : List Nd} {ss : List Sc} {l : List Ent} (h : ResW w B R T M1 M2 MR v ds ss l) (hB : B' ≤ B) : ResW w B' R T M1 M2 MR v ds ss l :=
  ⟨{ tree := h.tree.tree.lower hB
     hold := h.tree.hold
     pars := h.tree.pars
     items := h.tree.items
     mods := h.tree.mods
     low1 := Nat.le_trans hB h.tree.low1
     low2 := Nat.le_trans hB h.tree.low2 }, h.box, h.mean.lower hB, h.full⟩
/-- What resolutionOf answers. -/
def ResGot (ss : List Sc) (w : World) (e : Ending) (w' : World) : Prop :=
  (¬ Valid ss ∧ (∃ tp p, e = .returned (.tuple #[.pointer none, .iface tp p])) ∧ Below w.heap.size w w') ∨
  (Valid ss ∧ ∃ R T M1 M2 MR v ds l, e = .returned (.tuple #[.pointer (some ⟨R, 0, none⟩), .nilIface]) ∧ Below w.heap.size w w' ∧ ResW w' w.heap.size R T M1 M2 MR v ds ss l)
/-- What holds when some meanings are laid. -/
structure ResRun (W0 : World) (B M MR : Nat) (ss : List Sc) (pre : List (Nat × Nat × It)) (W : World) : Prop where
  turns : Turns W0 W M MR
  memo : Memo W M ss
  mean : ∃ l : List Ent, l.map Prod.fst = pre ∧ MeanW W B MR ss l
theorem cells_of_grown {A B : World} {row : Option Nat} (hg : A.grownBy B row) (hr : ∀ r, row = some r → ∃ o : Obj, A.heap[r]? = some o ∧ o.isCells = false) : CellsKept A.heap.size A B :=
  ⟨hg.size, fun g vs t fr _ hh => (hg.block g (Array.getElem?_eq_some_iff.1 hh).1 (fun e => by obtain ⟨o, ho, hc⟩ := hr g e.symm; rw [hh] at ho; cases ho; cases hc)).trans hh⟩
theorem resRun_own {W0 : World} {B M MR n : Nat} {ss : List Sc} {α : Type} (f : α → List (Nat × Nat × It)) (hn : W0.heap.size ≤ n) (h1 : M < n) (h2 : MR < n) : OwnFrom n (fun (pre : α) W => ResRun W0 B M MR ss (f pre) W) :=
  fun _ A _ _ hs hg hr => by
    obtain ⟨l, hl, hm⟩ := hs.mean
    exact ⟨hs.turns.grown hg hn (fun r e => (hr r e).1), hs.memo.same (hg.block M hs.memo.lt (fun e => by have := (hr _ e.symm).1; omega)), l, hl, hm.kept (cells_of_grown hg fun r e => (hr r e).2) (hg.block MR hm.lt (fun e => by have := (hr _ e.symm).1; omega))⟩
theorem ResRun.cells {W0 W : World} {B M MR : Nat} {ss : List Sc} {pre : List (Nat × Nat × It)} (h : ResRun W0 B M MR ss pre W) (m1 : Memo W0 M ss) {l0 : List Ent} (m2 : MeanW W0 B MR ss l0) : CellsKept W0.heap.size W0 W := by
  obtain ⟨l, _, _, m⟩ := m1
  exact h.turns.cells m m2.map
theorem mean_nil {w : World} {B MR : Nat} {ss : List Sc} (h : w.ownsMap Tryd.prog 34 sliceR MR 0 (.map [])) : MeanW w B MR ss [] := ⟨h, fun e he => by cases he⟩
theorem hT1 {w : World} {B T M1 M2 : Nat} {v : Value} {ds : List Nd} {ss : List Sc} (h : TreeIs w B T M1 M2 v ds ss) : M1 < w.heap.size ∧ M2 < w.heap.size := by
  obtain ⟨_, h1⟩ := h.items
  obtain ⟨_, h2⟩ := h.mods
  exact ⟨h1.lt, h2.lt⟩
set_option maxRecDepth 100000 in
set_option maxHeartbeats 8000000 in
theorem resolutionOf_any (ss : List Sc) (hF : Fair ss) (oa : Option Addr) (cap : Nat) (w : World) (hc : HoldsScopes w oa ss) (hE : TreeErrs w) :
    Calls Tryd.prog 90 #[.agg #[.slice oa ss.length cap]] w (ResGot ss w) := by
  have hb0 := (Below.refl w.heap.size w).alloc (Nat.le_refl _) (.cells #[.slice oa ss.length cap] 30)
  have C := Lib.hid ((callsIn_wide (n := 5)).2 (hF.tree oa cap _ (hc.below hb0 (Nat.le_refl _)) (hE.below hb0 hE.size)))
  have HB0 := Lib.hid hb0
  have hmm := @run_makeMap Tryd.prog
  clear hF hc hE hb0
  refine (callsIn_wide (n := 6)).1 ?_
  refine callsIn_of_wp_marks Tryd.func90 rfl trivial ?_ rfl
  simp only [Tryd.ntmps90, List.size_toArray, List.length_cons, List.length_nil, Nat.reduceAdd, Nat.reduceSub, Array.replicate_succ, Array.replicate_zero, List.push_toArray, List.append_toArray, List.nil_append, List.cons_append]
  gi_wp2_with fail
  refine ⟨trivial, ?_⟩
  gi_at_call 86
  refine C.out.mono ?_
  rintro e w1 (⟨hv, ⟨tp, p, rfl⟩, hb⟩ | ⟨hv, T, M1, M2, v, ds, rfl, hb, hT⟩)
  · have HB := Lib.hid (HB0.out.trans (hb.mono HB0.out.size))
    have HV := Lib.hid hv
    clear hv hb hmm
    gi_wp2
    exact ⟨_, results_tmp2 rfl _ _ _, .inl ⟨HV.out, ⟨tp, p, rfl⟩, HB.out⟩⟩
  · have HB := Lib.hid (HB0.out.trans (hb.mono HB0.out.size))
    have HV := Lib.hid hv
    have HT := Lib.hid hT
    clear hv hb hT
    gi_wp2_with fail
    refine ⟨trivial, ?_⟩
    gi_at_call 96
    refine ((callsIn_wide (n := 5)).2 (lookupIn_any T _)).mono ?_
    rintro e w3 ⟨rfl, hR3, hM3, hb3⟩
    simp only [World.size_alloc] at hR3 hM3 hb3 ⊢
    have hRS : Row w3 (w1.heap.size + 1) 107 [.pointer (some ⟨T, 0, none⟩), .map (some w1.heap.size)] := by
      have h := (Row.new (w1.alloc (.map #[] 0)) [.pointer (some ⟨T, 0, none⟩), .map (some w1.heap.size)] 107).alloc (.cells #[.pointer (some ⟨w1.heap.size + 1, 0, none⟩)] 102)
      rw [World.size_alloc] at h
      exact h.below hb3 (by omega)
    have hBR : Row w3 (w1.heap.size + 1 + 1) 102 [.pointer (some ⟨w1.heap.size + 1, 0, none⟩)] := by
      have h := Row.new ((w1.alloc (.map #[] 0)).alloc (.cells #[.pointer (some ⟨T, 0, none⟩), .map (some w1.heap.size)] 107)) [.pointer (some ⟨w1.heap.size + 1, 0, none⟩)] 102
      rw [World.size_alloc, World.size_alloc] at h
      exact h.below hb3 (by omega)
    have hMW : MeanW w3 w1.heap.size w1.heap.size ss [] := by
      have h := ((World.ownsMap_made w1 Tryd.prog 34 sliceR).alloc (.cells #[.pointer (some ⟨T, 0, none⟩), .map (some w1.heap.size)] 107)).alloc (.cells #[.pointer (some ⟨w1.heap.size + 1, 0, none⟩)] 102)
      exact (mean_nil h).below (by simp only [World.size_alloc]; exact hb3)
    have hbA : Below w1.heap.size w1 w3 := ((((Below.refl w1.heap.size w1).alloc (Nat.le_refl _) (.map #[] 0)).alloc (by simp) (.cells #[.pointer (some ⟨T, 0, none⟩), .map (some w1.heap.size)] 107)).alloc (by simp; omega) (.cells #[.pointer (some ⟨w1.heap.size + 1, 0, none⟩)] 102)).trans (hb3.mono (by omega))
    have hs3 := hR3.lt
    have hM1 := hT1 HT.out
    have hLW : LookW w3 (w.heap.size + 1) (w1.heap.size + 1 + 1 + 1 + 1) (w1.heap.size + 1 + 1 + 1) T M1 M2 v ds ss := by
      have h := HT.out
      rw [World.size_alloc] at h
      exact LookW.mk (h.below hbA) hR3 (memo_nil hM3) (by omega) (by omega)
    have HRS := Lib.hid hRS
    have HBR := Lib.hid hBR
    have HMW := Lib.hid hMW
    have HBA := Lib.hid hbA
    have HLW := Lib.hid hLW
    have HM1 := Lib.hid hM1
    have HS3 := Lib.hid hs3
    clear hR3 hM3 hb3 hRS hBR hMW hbA hLW hM1 hs3 hmm
    gi_wp2_with fail
    refine ⟨trivial, ?_⟩
    gi_at_call 124
    refine ((callsIn_wide (n := 5)).2 (all_any T _)).mono ?_
    rintro e w5 ⟨rfl, rfl⟩
    have bL0 := Boxed.new w3 118 (.pointer (some ⟨w1.heap.size + 1 + 1 + 1 + 1, 0, none⟩))
    have RL0 := (Row.new w3 [.pointer (some ⟨w1.heap.size + 1 + 1 + 1 + 1, 0, none⟩)] 118).alloc (.cells #[.pointer (some ⟨T, 0, none⟩)] 94)
    have bN := Boxed.new (w3.alloc (.cells #[.pointer (some ⟨w1.heap.size + 1 + 1 + 1 + 1, 0, none⟩)] 118)) 94 (.pointer (some ⟨T, 0, none⟩))
    rw [World.size_alloc] at bN
    have hB35 : Below w3.heap.size w3 ((w3.alloc (.cells #[.pointer (some ⟨w1.heap.size + 1 + 1 + 1 + 1, 0, none⟩)] 118)).alloc (.cells #[.pointer (some ⟨T, 0, none⟩)] 94)) := ((Below.refl _ _).alloc (Nat.le_refl _) _).alloc (by simp) _
    simp only [World.size_alloc]
    have hsz : ((w3.alloc (.cells #[.pointer (some ⟨w1.heap.size + 1 + 1 + 1 + 1, 0, none⟩)] 118)).alloc (.cells #[.pointer (some ⟨T, 0, none⟩)] 94)).heap.size = w3.heap.size + 1 + 1 := by simp
    gi_wp2
    generalize hW0 : (w3.alloc (.cells #[.pointer (some ⟨w1.heap.size + 1 + 1 + 1 + 1, 0, none⟩)] 118)).alloc (.cells #[.pointer (some ⟨T, 0, none⟩)] 94) = W0 at RL0 bN hB35 hsz ⊢
    clear hW0 bL0
    have HRL := Lib.hid RL0
    have HBN := Lib.hid bN.cell
    have HB35 := Lib.hid hB35
    have HLW0 := Lib.hid (HLW.out.below hB35)
    have HMW0 := Lib.hid (HMW.out.below hB35)
    have hBx := HBA.out.trans (hB35.mono HBA.out.size)
    have HBX := Lib.hid hBx
    have hsm := HV.out.small
    have h30 := placed_bound 0 ss 6 5 HV.out.count.2 HV.out.five
    clear RL0 bN hB35
    refine wpIn_rangeFunc_ownH rfl (by omega) (gf := 153) (lb := #[.pointer (some ⟨w3.heap.size + 1, 0, none⟩)]) rfl trivial (enters_of Tryd.func153 (by kernel_rfl) rfl)
      (all_stops 5 (by omega) (w3.heap.size + 1) _ T M1 M2 v ds ss w1 _ HT.out.tree HT.out.hold (HT.out.ne HV.out) hsm.len hsm.items (.of_below hBx) HBN.out) CellsKept.trans (fun W l o o' _ h1 h2 h3 => cellsKept_b (w := w1) W l o o' (by have := HS3.out; simp at *; omega) h1 h2 h3) (Below.refl _ _) (fun _ => rfl)
      (fun pre W => ResRun W0 w1.heap.size (w1.heap.size + 1 + 1 + 1) w1.heap.size ss (pre.map Subtype.val) W)
      (fun _ _ _ => False)
      (resRun_own _ (Nat.le_refl _) (by have := HS3.out; omega) (by have := HS3.out; omega))
      (fun _ _ _ _ _ hs _ _ => hs)
      ⟨Turns.refl _ _ _, HLW0.out.memo, [], rfl, HMW0.out⟩
      (fun x a' W => ∃ Bp Bx, Row W Bp 34 [.int .i64 (x.1.1 : Int), .int .i64 (x.1.2.1 : Int)] ∧ Row W Bx 65 [.int .i64 x.1.2.2.kind, .string x.1.2.2.name, .int .i64 x.1.2.2.scope] ∧
        a' = { tmps := #[.agg #[.slice oa ss.length cap], .pointer (some ⟨w.heap.size, 0, none⟩), .pointer none, .nilIface, .pointer (some ⟨T, 0, none⟩), .nilIface, .pointer (some ⟨w1.heap.size + 1 + 1, 0, none⟩), .pointer (some ⟨w3.heap.size, 0, none⟩), .pointer (some ⟨Bp, 0, none⟩), .pointer (some ⟨Bx, 0, none⟩), .tuple #[.pointer (some ⟨T, 0, none⟩), .nilIface], .agg #[.slice oa ss.length cap], .tuple #[.pointer (some ⟨T, 0, none⟩), .nilIface], .pointer (some ⟨T, 0, none⟩), .nilIface, .nilIface, .bool false, undef, .pointer (some ⟨T, 0, none⟩), .map (some w1.heap.size), .agg #[.pointer (some ⟨T, 0, none⟩), .map (some w1.heap.size)], .pointer (some ⟨w1.heap.size + 1, 0, none⟩), .pointer (some ⟨T, 0, none⟩), .pointer (some ⟨w1.heap.size + 1 + 1 + 1 + 1, 0, none⟩), .pointer (some ⟨T, 0, none⟩), .func (.func 153) #[] #[.pointer (some ⟨w3.heap.size + 1, 0, none⟩)], .agg #[.int .i64 (x.1.1 : Int), .int .i64 (x.1.2.1 : Int)], .agg #[.int .i64 x.1.2.2.kind, .string x.1.2.2.name, .int .i64 x.1.2.2.scope], undef, undef, undef, undef, undef, undef, undef, undef, undef, undef], defers := [] })
      (fun x a' _ X Y row hs hg hr => by obtain ⟨Bp, Bx, h1, h2, h3⟩ := hs; exact ⟨Bp, Bx, h1.kept_cells hg (fun r e => (hr r e).2), h2.kept_cells hg (fun r e => (hr r e).2), h3⟩)
      ?assign ?body ?done ?stop
    case assign =>
      rintro l pre x W K hi hK
      dsimp only [elArgs]
      gi_wp2
      have ha : Below W.heap.size W ((W.alloc (.cells #[.int .i64 (x.1.1 : Int), .int .i64 (x.1.2.1 : Int)] 34)).alloc (.cells #[.int .i64 x.1.2.2.kind, .string x.1.2.2.name, .int .i64 x.1.2.2.scope] 65)) := ((Below.refl _ _).alloc (Nat.le_refl _) _).alloc (by simp) _
      obtain ⟨le, hle, hme⟩ := hi.mean
      refine hK _ _ (((KeepsOthers.alloc _ _).trans (KeepsOthers.alloc _ _)).from _) ((CellsKept.of_below ha).mono (Nat.le_trans HBX.out.size hi.turns.size)) ⟨hi.turns.trans (.of_below ha), hi.memo.below ha, le, hle, hme.below ha⟩ ⟨W.heap.size, W.heap.size + 1, ?_, ?_, rfl⟩
      · exact (Row.new W [.int .i64 (x.1.1 : Int), .int .i64 (x.1.2.1 : Int)] 34).alloc _
      · have := Row.new (W.alloc (.cells #[.int .i64 (x.1.1 : Int), .int .i64 (x.1.2.1 : Int)] 34)) [.int .i64 x.1.2.2.kind, .string x.1.2.2.name, .int .i64 x.1.2.2.scope] 65
        rw [World.size_alloc] at this
        exact this
    case body =>
      rintro l pre x a' W hl _ hi ⟨Bp, Bx, hp, hx, rfl⟩ hlen
      obtain ⟨⟨i, j, it⟩, hmem⟩ := x
      dsimp only at hp hx ⊢
      have hck := hi.cells HLW0.out.memo HMW0.out
      have hw1 := HBX.out.size
      have hM := HM1.out
      have h3 := HS3.out
      have hLWW := HLW0.out.kept2 hck (hi.turns.rest M1 (by omega) (by omega) (by omega)) (hi.turns.rest M2 (by omega) (by omega) (by omega)) hi.memo
      have c0 := ((HRS.out.below HB35.out HRS.out.lt).cells hck).cell (i := 1) (by rfl)
      have c1 := ((HBR.out.below HB35.out HBR.out.lt).cells hck).cell (i := 0) (by rfl)
      have c2 := (HRL.out.cells hck).cell (i := 0) (by rfl)
      have p0 := hp.cell (i := 0) (by rfl)
      have p1 := hp.cell (i := 1) (by rfl)
      have x0 := hx.cell (i := 0) (by rfl)
      have x1 := hx.cell (i := 1) (by rfl)
      have x2 := hx.cell (i := 2) (by rfl)
      have C2 := Lib.hid ((callsIn_wide (n := 3)).2 (meaning_any HV.out (hLWW.below ((Below.refl _ _).drew)) hmem))
      have HI := Lib.hid hi
      have HLWW := Lib.hid hLWW
      have HMEM := Lib.hid hmem
      have HLEN := Lib.hid hlen
      clear hck hi hLWW hp hx hM
      gi_wp2
      refine wpIn_region_kept (F := Fence.wide) (S := fun w' => w'.cell? ⟨w1.heap.size + 1, 1, none⟩ = some (.map (some w1.heap.size)) ∧ w'.cell? ⟨w1.heap.size + 1 + 1, 0, none⟩ = some (.pointer (some ⟨w1.heap.size + 1, 0, none⟩)) ∧ w'.cell? ⟨w3.heap.size, 0, none⟩ = some (.pointer (some ⟨w1.heap.size + 1 + 1 + 1 + 1, 0, none⟩)) ∧
        w'.cell? ⟨Bp, 0, none⟩ = some (.int .i64 (i : Int)) ∧ w'.cell? ⟨Bp, 1, none⟩ = some (.int .i64 (j : Int)) ∧ w'.cell? ⟨Bx, 0, none⟩ = some (.int .i64 it.kind) ∧ w'.cell? ⟨Bx, 1, none⟩ = some (.string it.name) ∧ w'.cell? ⟨Bx, 2, none⟩ = some (.int .i64 it.scope)) 1000 l (by kernel_rfl) (by kernel_rfl) ?_
      have hS0 := And.intro (cell_drew c0) (And.intro (cell_drew c1) (And.intro (cell_drew c2) (And.intro (cell_drew p0) (And.intro (cell_drew p1) (And.intro (cell_drew x0) (And.intro (cell_drew x1) (cell_drew x2)))))))
      refine KeptAny.take (i := 0) (v := ?_) (by kernel_rfl) rfl rfl (by kernel_rfl) (by kernel_rfl) (by kernel_rfl) (fun _ _ _ h => h) (by rfl) (fun w' hw' => ?_) (fun _ => rfl) hS0 ?_
      rotate_left
      · (obtain ⟨s0, s1, s2, s3, s4, s5, s6, s7⟩ := hw'; go_simp; try with_reducible rfl)
      refine KeptAny.take (i := 1) (v := ?_) (by kernel_rfl) rfl rfl (by kernel_rfl) (by kernel_rfl) (by kernel_rfl) (fun _ _ _ h => h) (by rfl) (fun w' hw' => ?_) (fun _ => rfl) hS0 ?_
      rotate_left
      · (obtain ⟨s0, s1, s2, s3, s4, s5, s6, s7⟩ := hw'; go_simp; try with_reducible rfl)
      refine KeptAny.take (i := 2) (v := ?_) (by kernel_rfl) rfl rfl (by kernel_rfl) (by kernel_rfl) (by kernel_rfl) (fun _ _ _ h => h) (by rfl) (fun w' hw' => ?_) (fun _ => rfl) hS0 ?_
      rotate_left
      · (obtain ⟨s0, s1, s2, s3, s4, s5, s6, s7⟩ := hw'; go_simp; try with_reducible rfl)
      refine KeptAny.take (i := 3) (v := ?_) (by kernel_rfl) rfl rfl (by kernel_rfl) (by kernel_rfl) (by kernel_rfl) (fun _ _ _ h => h) (by rfl) (fun w' hw' => ?_) (fun _ => rfl) hS0 ?_
      rotate_left
      · (obtain ⟨s0, s1, s2, s3, s4, s5, s6, s7⟩ := hw'; go_simp; try with_reducible rfl)
      refine KeptAny.take (i := 4) (v := ?_) (by kernel_rfl) rfl rfl (by kernel_rfl) (by kernel_rfl) (by kernel_rfl) (fun _ _ _ h => h) (by rfl) (fun w' hw' => ?_) (fun _ => rfl) hS0 ?_
      rotate_left
      · (obtain ⟨s0, s1, s2, s3, s4, s5, s6, s7⟩ := hw'; go_simp; try with_reducible rfl)
      refine KeptAny.take (i := 5) (v := ?_) (by kernel_rfl) rfl rfl (by kernel_rfl) (by kernel_rfl) (by kernel_rfl) (fun _ _ _ h => h) (by rfl) (fun w' hw' => ?_) (fun _ => rfl) hS0 ?_
      rotate_left
      · (obtain ⟨s0, s1, s2, s3, s4, s5, s6, s7⟩ := hw'; go_simp; try with_reducible rfl)
      refine KeptAny.take (i := 6) (v := ?_) (by kernel_rfl) rfl rfl (by kernel_rfl) (by kernel_rfl) (by kernel_rfl) (fun _ _ _ h => h) (by rfl) (fun w' hw' => ?_) (fun _ => rfl) hS0 ?_
      rotate_left
      · (obtain ⟨s0, s1, s2, s3, s4, s5, s6, s7⟩ := hw'; go_simp; try with_reducible rfl)
      refine KeptAny.take (i := 7) (v := ?_) (by kernel_rfl) rfl rfl (by kernel_rfl) (by kernel_rfl) (by kernel_rfl) (fun _ _ _ h => h) (by rfl) (fun w' hw' => ?_) (fun _ => rfl) hS0 ?_
      rotate_left
      · (obtain ⟨s0, s1, s2, s3, s4, s5, s6, s7⟩ := hw'; go_simp; try with_reducible rfl)
      refine KeptAny.one (i := 8) (by kernel_rfl) rfl (by rfl) (fun K hK => ?_)
      go_simp
      refine ⟨trivial, ?_⟩
      refine C2.out.mono ?_
      rintro e w4 ⟨u, rfl, hu, hl4⟩
      obtain ⟨le, hle, hme⟩ := HI.out.mean
      have hck4 : CellsKept W.drew.heap.size W.drew w4 := hl4.turns.cellsM (ss := ss) (HLWW.out.memo.below ((Below.refl _ _).drew))
      have hme4 := (hme.below ((Below.refl _ _).drew)).kept hck4 (hl4.turns.rest w1.heap.size (by have := HI.out.turns.size; show w1.heap.size < W.heap.size; omega) (by omega) (by omega))
      have hll : le.length < 1000 := by
        have h1 := congrArg List.length hle
        rw [List.length_map, List.length_map] at h1
        have h2 := HLEN.out
        omega
      obtain ⟨w6, hrun6, hme6, hg6⟩ := mean_put HV.out hme4 hll HMEM.out (ownsRow_lower hu (show w1.heap.size ≤ W.heap.size by have := HI.out.turns.size; omega))
      have hS4 := And.intro (cell_kept hck4 (cell_drew c0)) (And.intro (cell_kept hck4 (cell_drew c1)) (And.intro (cell_kept hck4 (cell_drew c2)) (And.intro (cell_kept hck4 (cell_drew p0)) (And.intro (cell_kept hck4 (cell_drew p1)) (And.intro (cell_kept hck4 (cell_drew x0)) (And.intro (cell_kept hck4 (cell_drew x1)) (cell_kept hck4 (cell_drew x2))))))))
      have hck6 : CellsKept w4.heap.size w4 w6 := cells_of_grown hg6 (fun r e => by
        cases e
        obtain ⟨es, clock, h1, _⟩ := hme4.map
        exact ⟨_, h1, rfl⟩)
      have hT46 : Turns W w6 (w1.heap.size + 1 + 1 + 1) w1.heap.size := ((Turns.of_below ((Below.refl W.heap.size W).drew)).trans ⟨hl4.turns.os, hl4.turns.tape, hl4.turns.output, hl4.turns.size, fun g hg h1 _ => hl4.turns.rest g hg h1 h1⟩).trans (.of_grown hg6 (.inr rfl))
      have HEND : Hid (ResRun W0 w1.heap.size (w1.heap.size + 1 + 1 + 1) w1.heap.size ss ((pre ++ [(⟨(i, j, it), HMEM.out⟩ : El ss)]).map Subtype.val) w6) := Lib.hid
        ⟨HI.out.turns.trans hT46, hl4.look.memo.same (hg6.block _ hl4.look.memo.lt (fun e => by have := Option.some.inj e; omega)), le ++ [((i, j, it), u)], by rw [List.map_append, List.map_append, hle]; rfl, hme6⟩
      have HT46 := Lib.hid hT46
      have HC46 : Hid (CellsKept W.heap.size W w6) := Lib.hid (by
        obtain ⟨lm, _, _, m⟩ := HI.out.memo
        exact hT46.cells m hme.map)
      refine hK.out _ _ hS4 (fun hS => ?_)
      refine KeptAny.one (i := 9) (by kernel_rfl) rfl (by rfl) (fun K' hK' => ?_)
      have HCK6 := Lib.hid hck6
      have HS := Lib.hid hS
      clear hme hme4 hme6 hg6 hT46 hl4 hu hle C2 hK hck6 hck4
      go_simp
      refine hK'.out _ _ ?_ (fun _ => ?_)
      · obtain ⟨s0, s1, s2, s3, s4, s5, s6, s7⟩ := HS.out
        exact ⟨cell_kept HCK6.out s0, cell_kept HCK6.out s1, cell_kept HCK6.out s2, cell_kept HCK6.out s3, cell_kept HCK6.out s4, cell_kept HCK6.out s5, cell_kept HCK6.out s6, cell_kept HCK6.out s7⟩
      refine KeptAny.done (by kernel_rfl) ?_ _
      gi_wp2
      exact ⟨HT46.out.keepsFrom (by omega) (by omega), HC46.out.mono (Nat.le_trans hw1 HI.out.turns.size), HEND.out⟩
    case done =>
      rintro D xs W hD hS hi hK
      have hck := hi.cells HLW0.out.memo HMW0.out
      have hw1 := HBX.out.size
      have hM := HM1.out
      have h3 := HS3.out
      have c1 := ((HBR.out.below HB35.out HBR.out.lt).cells hck).cell (i := 0) (v := .pointer (some ⟨w1.heap.size + 1, 0, none⟩)) (by rfl)
      have hBW : Below w.heap.size w W := (HB.out.trans (HBX.out.mono HB.out.size)).trans (hi.turns.below (by have := HB.out.size; omega) (by have := HB.out.size; omega) (by have := HB.out.size; omega))
      obtain ⟨le, hle, hme⟩ := hi.mean
      have hRW : ResW W w.heap.size (w1.heap.size + 1) T M1 M2 w1.heap.size v ds ss le :=
        ⟨{ tree := (HLW0.out.tree.tree.lower (by omega)).kept hck (Nat.le_refl _)
           hold := HLW0.out.tree.hold.keptC hck (Nat.le_refl _)
           pars := HLW0.out.tree.pars
           items := by obtain ⟨n, h⟩ := HLW0.out.tree.items; exact ⟨n, ownsMap_same h (hi.turns.rest M1 (by omega) (by omega) (by omega))⟩
           mods := by obtain ⟨n, h⟩ := HLW0.out.tree.mods; exact ⟨n, ownsMap_same h (hi.turns.rest M2 (by omega) (by omega) (by omega))⟩
           low1 := Nat.le_trans (by omega) HLW0.out.tree.low1
           low2 := Nat.le_trans (by omega) HLW0.out.tree.low2 }, (HRS.out.below HB35.out HRS.out.lt).cells hck, hme.lower HB.out.size, by rw [hle, hS]⟩
      have hDD : W0.heap.size ≤ D := by omega
      have HRW := Lib.hid hRW
      have HBW := Lib.hid hBW
      have HK := Lib.hid hK
      clear hi hck hRW hBW hme hle hS hD
      gi_wp2
      refine ⟨by simp, .inl ⟨_, _, rfl, run_takeDeferred HK.out, ?_⟩⟩
      refine ⟨_, results_tmp2 rfl _ _ _, .inr ⟨HV.out, w1.heap.size + 1, T, M1, M2, w1.heap.size, v, ds, le, rfl, HBW.out.trans (belowK_b (w := w) (Nat.le_refl _) W D _ _ (by have := HB.out.size; omega) HK.out rfl rfl), ?_⟩⟩
      exact HRW.out.kept2 (CellsKept.putObj W D _ _ HK.out rfl) (World.putObj_heap_other (by omega)) (World.putObj_heap_other (by omega)) (World.putObj_heap_other (by omega))
    case stop =>
      rintro D c pre W _ _ h _
      exact h.elim
end Go.Proofs.YtadpgoiiopfnnaaDoor
namespace Go.Proofs.YtadpgoiiopfnnaaDoor
open Go Go.RowKit Go.Maps
attribute [local go_sem ↓] field_kind field_name field_scope
set_option maxRecDepth 100000 in
set_option maxHeartbeats 4000000 in
theorem specMeantBy_any (ss : List Sc) (hv : Valid ss) (oa : Option Addr) (cap : Nat) (k0 : Nat) (hk0 : k0 ≤ ss.length) (ot : Option Addr) (ct : Nat) (s : Nat) (hs : s ≤ k0) (hsl : s < ss.length) (nm : ByteArray) (w : World) (hc : HoldsScopes w oa ss) (ht : HoldsTab w ot (tabP ss k0)) :
    Calls Tryd.prog 151 #[.agg #[.slice oa ss.length cap], .slice ot k0 ct, .int .i64 s, .string nm] w (PlsGot (meantP ss s nm) w) := by
  have hb0 := (Below.refl w.heap.size w).alloc (Nat.le_refl _) (.cells #[.slice oa ss.length cap] 30)
  have R0 := Lib.hid (Row.new w [.slice oa ss.length cap] 30)
  have h6 := hv.count.2
  obtain ⟨c, hci⟩ : ∃ c, ss[s]? = some c := ⟨_, List.getElem?_eq_getElem hsl⟩
  obtain ⟨bb, off, rfl, hbb, hcell⟩ := hc.at (by omega)
  obtain ⟨oi, ci, a0, a1, -⟩ := hcell s c hci
  have HA0 : Hid (w.cell? ⟨bb, off + s * 2, none⟩ = some (.int .i64 c.parent)) := Lib.hid a0
  have C2 := Lib.hid (specL3Own_any ss hv (some ⟨bb, off, none⟩) cap s hsl nm _ (hc.below hb0 (Nat.le_refl _)))
  have HB0 := Lib.hid hb0
  have HC := Lib.hid hc
  have HT := Lib.hid ht
  have HV := Lib.hid hv
  have HCS := Lib.hid (hv.climbs.cases hci)
  have hol := ownP_length hv s nm
  clear hv hc ht hb0 hcell hci a0 a1
  go_enter Tryd.func151, Tryd.ntmps151
  go_wp2_with fail
  refine C2.out.mono ?_
  rintro e w2 ⟨u, rfl, hu, hb2⟩
  obtain ⟨ou, cu, rfl⟩ := ownsRow_slice hu
  have HB2 := Lib.hid (HB0.out.trans (hb2.mono HB0.out.size))
  have R2 := Lib.hid (R0.out.below hb2 R0.out.lt)
  have HU := Lib.hid (ownsRow_lower hu HB0.out.size)
  have g2 := R2.out.cell (i := 0) (by rfl)
  have a2 := (HB2.out.cell (p := ⟨bb, off + s * 2, none⟩) hbb).trans HA0.out
  have hsi : (s : Int) < (ss.length : Int) := by omega
  have hs0 : (0 : Int) ≤ (s : Int) := by omega
  clear hb2 hu
  by_cases hpos : 0 < (ownP ss s nm).length
  · have HE : Hid (meantP ss s nm = ownP ss s nm) := Lib.hid (meantP_own (isEmpty_pos hpos))
    go_wp2
    go_ret
    rw [HE.out]
    exact ⟨_, rfl, HU.out, HB2.out⟩
  · have hz : (ownP ss s nm).length = 0 := by omega
    have HEM := Lib.hid (isEmpty_zero hpos)
    have HNIL : Hid (ownP ss s nm = []) := Lib.hid (List.eq_nil_of_length_eq_zero hz)
    clear hpos
    rcases HCS.out with ⟨hz0, h1, h2⟩ | ⟨p, h1, hlt, h2⟩
    · rw [h1] at a2
      have HE : Hid (meantP ss s nm = []) := Lib.hid (meantP_none HEM.out h2)
      have HU0 : Hid (w2.ownsRow w.heap.size 34 2 (.slice ou 0 cu) 0 []) := Lib.hid (by have h := HU.out; rw [HNIL.out] at h; exact h)
      clear h1 h2 hz0
      go_wp2
      go_ret
      rw [HE.out]
      exact ⟨_, rfl, HU0.out, HB2.out⟩
    · rw [h1] at a2
      have HE : Hid (meantP ss s nm = (lookP ss p nm).places) := Lib.hid (meantP_par HEM.out h2)
      have hp0 : ¬ (p : Int) < 0 := by omega
      have hpk : p < k0 := by omega
      clear h1 h2
      go_wp2
      go_cut [12] (fun s12 wx => wx.ownsRow w.heap.size 34 2 s12 (lookP ss p nm).places.length (placeCells (lookP ss p nm).places) ∧ Below w2.heap.size w2 wx)
      case first =>
        go_region_held3 (fun w' => w'.cell? ⟨w.heap.size, 0, none⟩ = some (.slice (some ⟨bb, off, none⟩) ss.length cap) ∧ w'.cell? ⟨bb, off + s * 2, none⟩ = some (.int .i64 (p : Int)))
          (first | exact ⟨g2, a2⟩ | exact ⟨cell_drew g2, cell_drew a2⟩ | exact ⟨cell_grow hb3 (cell_drew g2), cell_grow hb3 (cell_drew a2)⟩)
          (first | (go_at_call 165; refine (specWayBy_any ss HV.out (some ⟨bb, off, none⟩) cap k0 hk0 ot ct p hpk nm _ (HC.out.below HB2.out.drew (Nat.le_refl _)) (HT.out.below HB2.out.drew)).mono ?_; rintro e w3 ⟨v3, rfl, hrow3, hb3⟩))
        all_goals go_wp2
        all_goals go_meet
        all_goals exact ⟨ownsRow_lower hrow3 HB2.out.size, ((Below.refl _ _).drew).trans hb3⟩
      case rest =>
        obtain ⟨hrow4, hbc⟩ := hcut
        have HO := Lib.hid (And.intro hrow4 (HB2.out.trans (hbc.mono HB2.out.size)))
        clear hbc hrow4 g2 a2
        go_wp2
        go_ret
        rw [HE.out]
        exact ⟨_, rfl, HO.out.1, HO.out.2⟩
end Go.Proofs.YtadpgoiiopfnnaaDoor
namespace Go.Proofs.YtadpgoiiopfnnaaDoor
open Go Go.RowKit Go.Maps
attribute [local go_sem ↓] field_kind field_name field_scope
theorem infoSl : (Tryd.prog.info? 115).map (fun i => (i.zero, i.size, i.bytes)) = some (some (.slice none 0 0), 1, 24) := by kernel_rfl
/-- Two rows of one's own whose elements have different types lie in different blocks. -/
theorem ownsRows_ne {w : World} {b1 b2 n1 n2 s1 s2 : Nat} {t1 t2 : TypeId} {v1 v2 : Value} {xs1 xs2 : List Value} (h1 : w.ownsRow b1 t1 s1 v1 n1 xs1) (h2 : w.ownsRow b2 t2 s2 v2 n2 xs2) (ht : t1 ≠ t2) : v1.ownBlock = none ∨ v1.ownBlock ≠ v2.ownBlock := by
  obtain ⟨_, k1 | ⟨g1, c1, cur1, hv1, _, hh1, _⟩⟩ := h1
  · exact .inl (by rw [k1.1]; rfl)
  · obtain ⟨_, k2 | ⟨g2, c2, cur2, hv2, _, hh2, _⟩⟩ := h2
    · refine .inr ?_
      rw [k2.1, hv1]
      intro e
      cases e
    · refine .inr ?_
      rw [hv1, hv2]
      intro e
      simp only [Value.ownBlock, Option.some.injEq] at e
      subst e
      rw [hh1] at hh2
      injection hh2 with hh2
      injection hh2 with _ e2
      exact ht e2
/-- What holds at the head of a scope's round. -/
structure TabAt (w wr : World) (oa : Option Addr) (cap n : Nat) (v : Value) (tab : List (List Nat)) : Prop where
  box : Row wr w.heap.size 30 [.slice oa n cap]
  row : ∃ hs : List Value, wr.ownsRow w.heap.size 115 1 v tab.length hs ∧ ∀ (m : Nat) (l : List Nat), tab[m]? = some l → ∃ u : Value, hs[m]? = some u ∧ wr.ownsRow w.heap.size 3 1 u l.length (numVals l)
  below : Below w.heap.size w wr
theorem TabAt.step {w wr w' : World} {oa : Option Addr} {cap n : Nat} {v : Value} {tab : List (List Nat)} (h : TabAt w wr oa cap n v tab) (hb : Below wr.heap.size wr w') : TabAt w w' oa cap n v tab where
  box := h.box.below hb h.box.lt
  row := by
    obtain ⟨hs, h1, h2⟩ := h.row
    refine ⟨hs, ownsRow_below h1 hb, fun m l hl => ?_⟩
    obtain ⟨u, k1, k2⟩ := h2 m l hl
    exact ⟨u, k1, ownsRow_below k2 hb⟩
  below := h.below.trans (hb.mono h.below.size)
/-- The lists of a table are the call's own. -/
def OwnsTab (w : World) (base : Nat) (ot : Option Addr) (tab : List (List Nat)) : Prop :=
  ∀ (m : Nat) (l : List Nat), tab[m]? = some l → ∃ (b off : Nat) (u : Value), ot = some ⟨b, off, none⟩ ∧ b < w.heap.size ∧ w.cell? ⟨b, off + m, none⟩ = some u ∧ w.ownsRow base 3 1 u l.length (numVals l)
theorem TabAt.tab {w wr : World} {oa : Option Addr} {cap n : Nat} {v : Value} {tab : List (List Nat)} (h : TabAt w wr oa cap n v tab) : ∃ ot ct, v = .slice ot tab.length ct ∧ HoldsTab wr ot tab ∧ OwnsTab wr w.heap.size ot tab := by
  obtain ⟨hs, ⟨hl, h2 | ⟨g, ct, cur, hv, hB, hh, hn, _, hsz, ht⟩⟩, h3⟩ := h.row
  · have e := List.eq_nil_of_length_eq_zero h2.2
    refine ⟨none, 0, by rw [h2.1, h2.2], .inl e, fun m l hm => ?_⟩
    rw [e] at hm
    simp at hm
  · have hc : ∀ (m : Nat) (u : Value), m < tab.length → hs[m]? = some u → wr.cell? ⟨g, 0 + m, none⟩ = some u := by
      intro m u hml k1
      rw [← ht, List.getElem?_take_of_lt (by omega)] at k1
      rw [Nat.zero_add]
      simp [World.cell?, hh]
      simpa using k1
    refine ⟨_, ct, hv, .inr ⟨g, 0, rfl, (Array.getElem?_eq_some_iff.1 hh).1, fun m l hm => ?_⟩, fun m l hm => ?_⟩
    · obtain ⟨u, k1, k2⟩ := h3 m l hm
      obtain ⟨o, c, rfl, k3⟩ := holdsInts_of_owns k2
      exact ⟨o, c, hc m _ (List.getElem?_eq_some_iff.1 hm).1 k1, k3⟩
    · obtain ⟨u, k1, k2⟩ := h3 m l hm
      exact ⟨g, 0, u, rfl, (Array.getElem?_eq_some_iff.1 hh).1, hc m _ (List.getElem?_eq_some_iff.1 hm).1 k1, k2⟩
/-- A list more. -/
theorem TabAt.more {w wr w' : World} {oa : Option Addr} {cap n : Nat} {v v' u : Value} {tab : List (List Nat)} {hs : List Value} {l : List Nat} {o : Obj} (h : TabAt w wr oa cap n v tab)
    (hrow : wr.ownsRow w.heap.size 115 1 v tab.length hs) (hls : ∀ (m : Nat) (l : List Nat), tab[m]? = some l → ∃ u : Value, hs[m]? = some u ∧ wr.ownsRow w.heap.size 3 1 u l.length (numVals l))
    (hu : wr.ownsRow w.heap.size 3 1 u l.length (numVals l)) (hown : w'.ownsRow w.heap.size 115 1 v' (tab.length + 1) (hs ++ [u])) (hg : (wr.alloc o).grownBy w' v.ownBlock) : TabAt w w' oa cap n v' (tab ++ [l]) where
  box := (h.box.alloc o).grown hg (ownsRow_ne h.box (by decide) hrow)
  row := by
    refine ⟨hs ++ [u], by simpa using hown, fun m l' hm => ?_⟩
    have hk : ∀ {q : Value} {l' : List Nat}, wr.ownsRow w.heap.size 3 1 q l'.length (numVals l') → w'.ownsRow w.heap.size 3 1 q l'.length (numVals l') := fun hq => (hq.alloc o).kept hg (ownsRows_ne hq hrow (by decide))
    have hlen : hs.length = tab.length := by have := hrow.1; omega
    by_cases hlt : m < tab.length
    · rw [List.getElem?_append_left hlt] at hm
      obtain ⟨q, k1, k2⟩ := hls m l' hm
      exact ⟨q, by rw [List.getElem?_append_left (by omega)]; exact k1, hk k2⟩
    · obtain rfl : m = tab.length := by
        have := (List.getElem?_eq_some_iff.1 hm).1
        simp at this
        omega
      rw [List.getElem?_append_right (Nat.le_refl _), Nat.sub_self] at hm
      cases hm
      exact ⟨u, by rw [List.getElem?_append_right (by omega), hlen, Nat.sub_self]; rfl, hk hu⟩
  below := h.below.trans (below_append2 hrow hg (Nat.le_refl _) h.below.size)
set_option maxRecDepth 100000 in
set_option maxHeartbeats 8000000 in
theorem specTable_any (ss : List Sc) (hv : Valid ss) (hf : FitsScopes ss) (oa : Option Addr) (cap : Nat) (w : World) (hc : HoldsScopes w oa ss) :
    Calls Tryd.prog 152 #[.agg #[.slice oa ss.length cap]] w fun e w' => ∃ ot ct, e = .returned (.slice ot ss.length ct) ∧ HoldsTab w' ot (tabP ss ss.length) ∧ OwnsTab w' w.heap.size ot (tabP ss ss.length) ∧ Below w.heap.size w w' := by
  have hb0 := ((Below.refl w.heap.size w).alloc (Nat.le_refl _) (.cells #[.slice oa ss.length cap] 30)).alloc (by simp) (.cells #[] 115)
  have hR0 := (Row.new w [.slice oa ss.length cap] 30).alloc (.cells #[] 115)
  have hown0 : ((w.alloc (.cells #[.slice oa ss.length cap] 30)).alloc (.cells #[] 115)).ownsRow w.heap.size 115 1 (.slice (some ⟨w.heap.size + 1, 0, none⟩) 0 0) 0 [] := by
    have h0 := World.ownsRow_made (base := w.heap.size) (e := 115) (size := 1) (w.alloc (.cells #[.slice oa ss.length cap] 30)) #[] 0 (by simp) (by unfold maxLen; omega) rfl
    rw [World.size_alloc] at h0
    exact h0
  have HP0 : Hid (TabAt w ((w.alloc (.cells #[.slice oa ss.length cap] 30)).alloc (.cells #[] 115)) oa cap ss.length (.slice (some ⟨w.heap.size + 1, 0, none⟩) 0 0) (tabP ss 0)) := Lib.hid ⟨hR0, ⟨[], hown0, fun m l h => by simp [tabP] at h⟩, hb0⟩
  have HC := Lib.hid hc
  have HV := Lib.hid hv
  have HF := Lib.hid hf
  have h6 := hv.count.2
  have g00 := hR0.cell (i := 0) (by rfl)
  clear hv hc hf hb0 hR0 hown0
  go_enter Tryd.func152, Tryd.ntmps152
  go_wp2
  go_loopw [3, 15] (fun v i wr => ∃ k : Nat, i = .int .i64 k ∧ k ≤ ss.length ∧ Hid (TabAt w wr oa cap ss.length v (tabP ss k))) (fun _ i _ => ss.length - (intOf i).toNat)
  case atStart => exact ⟨0, rfl, Nat.zero_le _, HP0⟩
  case round =>
    obtain ⟨k, rfl, hk, hP⟩ := hrel
    obtain ⟨W0, rfl⟩ : ∃ x, x = wr := ⟨wr, rfl⟩
    obtain ⟨ot, ct, hvv, htab, hto⟩ := hP.out.tab
    rw [tabP_length] at hvv
    subst hvv
    have HTB := Lib.hid htab
    have HTO := Lib.hid hto
    clear hto
    by_cases hlt : k < ss.length
    · obtain ⟨c, hck⟩ : ∃ c, ss[k]? = some c := ⟨_, List.getElem?_eq_getElem hlt⟩
      obtain ⟨bb, off, rfl, hbb, hcell⟩ := HC.out.at (by omega)
      obtain ⟨oi, ci, a0, a1, hci⟩ := hcell k c hck
      have hil := HV.out.five c (List.mem_of_getElem? hck)
      have b0 := (hP.out.below.cell (p := ⟨bb, off + k * 2, none⟩) hbb).trans a0
      have b1 := (hP.out.below.cell (p := ⟨bb, off + k * 2 + 1, none⟩) hbb).trans a1
      have hbx := ((Below.refl W0.heap.size W0).alloc (Nat.le_refl _) (.cells #[.int .i64 c.parent, .slice oi c.items.length ci] 90)).alloc (by simp) (.cells #[] 3)
      have hown1 : ((W0.alloc (.cells #[.int .i64 c.parent, .slice oi c.items.length ci] 90)).alloc (.cells #[] 3)).ownsRow W0.heap.size 3 1 (.slice (some ⟨W0.heap.size + 1, 0, none⟩) 0 0) 0 [] := by
        have h0 := World.ownsRow_made (base := W0.heap.size) (e := 3) (size := 1) (W0.alloc (.cells #[.int .i64 c.parent, .slice oi c.items.length ci] 90)) #[] 0 (by simp) (by unfold maxLen; omega) rfl
        rw [World.size_alloc] at h0
        exact h0
      have HS := Lib.hid (And.intro hown1 hbx)
      have HI := Lib.hid hci
      have HCK := Lib.hid hck
      have HIT := Lib.hid (itemsP_of hck)
      have hW0 := hP.out.below.size
      clear hcell hci a0 a1 hbx hown1 htab hck
      go_wp2
      go_loopw [6, 24] (fun u i wr => ∃ j : Nat, i = .int .i64 j ∧ j ≤ c.items.length ∧ Hid (wr.ownsRow W0.heap.size 3 1 u (impUp ss (impP ss) k c.items j).length (numVals (impUp ss (impP ss) k c.items j)) ∧ Below W0.heap.size W0 wr)) (fun _ i _ => c.items.length - (intOf i).toNat)
      case atStart => exact ⟨0, rfl, Nat.zero_le _, HS⟩
      case round =>
        obtain ⟨j, rfl, hj, hU⟩ := hrel
        by_cases hlt2 : j < c.items.length
        · obtain ⟨x, hx⟩ : ∃ x, c.items[j]? = some x := ⟨_, List.getElem?_eq_getElem hlt2⟩
          obtain ⟨b2, o2, rfl, hb2, hcell2⟩ := HI.out.at (by omega)
          obtain ⟨x0, x1, x2⟩ := hcell2 j x hx
          have HBW := Lib.hid (hP.out.below.trans (hU.out.2.mono hP.out.below.size))
          have y0 := (HBW.out.cell (p := ⟨b2, o2 + j * 3, none⟩) hb2).trans x0
          have y1 := (HBW.out.cell (p := ⟨b2, o2 + j * 3 + 1, none⟩) hb2).trans x1
          have y2 := (HBW.out.cell (p := ⟨b2, o2 + j * 3 + 2, none⟩) hb2).trans x2
          have hbi := (Below.refl wr.heap.size wr).alloc (Nat.le_refl _) (.cells #[.int .i64 x.kind, .string x.name, .int .i64 x.scope] 65)
          have HBI := Lib.hid (hU.out.2.trans (hbi.mono hU.out.2.size))
          have HUI := Lib.hid (ownsRow_below hU.out.1 hbi)
          have hul := impUp_length (ss := ss) k c.items j
          have HST := Lib.hid (impUp_snoc (ss := ss) (imps := impP ss) (s := k) hx)
          have HXX := Lib.hid hx
          clear hx hcell2 x0 x1 x2 hbi
          by_cases hkd : x.kind = 3
          · have hq : (x.kind == 3) = true := by simpa using hkd
            have HKD := Lib.hid hkd
            have HT1 := Lib.hid (hP.out.step HBI.out)
            have C2 := Lib.hid (specMeantBy_any ss HV.out (some ⟨bb, off, none⟩) cap k (by omega) ot ct k (Nat.le_refl _) hlt x.name _ (HC.out.below HT1.out.below (Nat.le_refl _)) (HTB.out.below HBI.out))
            have RI := Lib.hid (Row.new wr [.int .i64 x.kind, .string x.name, .int .i64 x.scope] 65)
            have g1 := HT1.out.box.cell (i := 0) (by rfl)
            clear hkd
            go_wp2_with fail
            refine C2.out.mono ?_
            rintro e w3 ⟨v3, rfl, hrow3, hb3⟩
            obtain ⟨o3, c3, rfl, harg⟩ := argPlaces_of_owns hrow3
            have HT3 := Lib.hid (HT1.out.step hb3)
            have HB3 := Lib.hid (HBI.out.trans (hb3.mono HBI.out.size))
            have HU3 := Lib.hid (ownsRow_below HUI.out hb3)
            have HA3 := Lib.hid harg
            have hml : (meantP ss k x.name).length ≤ 25 := by
              unfold meantP meantF
              split
              · split
                · simp
                · exact lookF_length HV.out _ _
              · have := ownP_length HV.out k x.name; omega
            clear hb3 hrow3 harg g1 y0 y1 y2
            by_cases h1 : (meantP ss k x.name).length = 1
            · obtain ⟨p, hp⟩ := List.length_eq_one_iff.1 h1
              obtain ⟨i2, j2, c2, y, rfl, hc2, hy2⟩ := meant_isPlace p (by rw [hp]; exact List.mem_singleton.2 rfl)
              have HTG : Hid (targetP ss k x.name = y.scope) := Lib.hid (by rw [targetP_one hp, scopeAt_of hc2 hy2])
              have hTO := target_ok HV.out k x.name
              rw [HTG.out] at hTO
              obtain ⟨b5, f5, rfl, hb5, q5⟩ := HA3.out.at (by omega)
              obtain ⟨r0, r1⟩ := q5 0 ((i2 : Int), (j2 : Int)) (by rw [hp]; rfl)
              rw [Nat.zero_mul, Nat.add_zero] at r0 r1
              have g3 := HT3.out.box.cell (i := 0) (by rfl)
              have C3 := fun W (hbW : Below w.heap.size w W) => specAt_any ss HF.out (some ⟨bb, off, none⟩) cap i2 j2 c2 y hc2 hy2 W (HC.out.below hbW (Nat.le_refl _))
              have HC3 := Lib.hid C3
              clear C3 hp hc2 hy2 q5
              rw [h1]
              go_wp2
              go_cut [10] (fun s10 wx => s10 = .int .i64 y.scope ∧ Below w3.heap.size w3 wx)
              case first =>
                go_region_held3 (fun w' => w'.cell? ⟨w.heap.size, 0, none⟩ = some (.slice (some ⟨bb, off, none⟩) ss.length cap) ∧ w'.cell? ⟨b5, f5, none⟩ = some (.int .i64 (i2 : Int)) ∧ w'.cell? ⟨b5, f5 + 1, none⟩ = some (.int .i64 (j2 : Int)))
                  (first | exact ⟨g3, r0, r1⟩ | exact ⟨cell_drew g3, cell_drew r0, cell_drew r1⟩ | exact ⟨cell_grow hb4 (cell_drew g3), cell_grow hb4 (cell_drew r0), cell_grow hb4 (cell_drew r1)⟩)
                  (first | (go_at_call 93; refine (HC3.out _ HT3.out.below.drew).mono ?_; rintro e w4 ⟨rfl, hb4⟩; unfold itV))
                all_goals go_wp2
                all_goals go_meet
                all_goals exact ⟨rfl, ((Below.refl _ _).drew).trans hb4⟩
              case rest =>
                obtain ⟨rfl, hbc⟩ := hcut
                have HT4 := Lib.hid (HT3.out.step hbc)
                have HB4 := Lib.hid (HB3.out.trans (hbc.mono HB3.out.size))
                have hu4 := ownsRow_below HU3.out hbc
                obtain ⟨ou, cu, rfl, hh4⟩ := holdsInts_of_owns hu4
                have HU4 := Lib.hid hu4
                have HH4 := Lib.hid hh4
                have HNL : Hid ((natInts (impUp ss (impP ss) k c.items j)).length < 2 ^ 40) := Lib.hid (by rw [natInts_length]; omega)
                clear hbc hu4 hh4 g3 r0 r1
                rcases hTO with ht | ⟨m, ht, hm⟩
                · have HE : Hid (impUp ss (impP ss) k c.items (j + 1) = impUp ss (impP ss) k c.items j) := Lib.hid (by rw [HST.out, impStep_none (HTG.out.trans ht)])
                  rw [ht]
                  go_wp2
                  go_roundw
                  case rel => exact ⟨j + 1, by go_num, by omega, Lib.hid (by rw [HE.out]; exact ⟨HU4.out, HB4.out⟩)⟩
                  case measure => simp only [intOf]; omega
                · rw [ht]
                  go_wp2_with fail
                  refine (l2In_any (natInts (impUp ss (impP ss) k c.items j)) ou cu (m : Int) _ HNL.out HH4.out).mono ?_
                  rintro e w5 ⟨rfl, hb5⟩
                  have HB5 := Lib.hid (HB4.out.trans (hb5.mono HB4.out.size))
                  have HU5 := Lib.hid (ownsRow_below HU4.out hb5)
                  obtain ⟨q, hq2⟩ : ∃ q, decide ((m : Int) ∈ natInts (impUp ss (impP ss) k c.items j)) = q := ⟨_, rfl⟩
                  rw [hq2]
                  have HQ := Lib.hid hq2
                  clear hb5 hq2
                  cases q
                  · have HNI : Hid (m ∉ impUp ss (impP ss) k c.items j) := Lib.hid (fun h => by have := HQ.out; simp [mem_natInts.2 h] at this)
                    have HE : Hid (impUp ss (impP ss) k c.items (j + 1) = impUp ss (impP ss) k c.items j ++ [m]) := Lib.hid (by rw [HST.out, impStep_new HKD.out (HTG.out.trans ht) HNI.out])
                    obtain ⟨i0, hi0, hz0, hz1, hz2⟩ := info_parts infoInt
                    have hbs5 := HB5.out.size
                    go_wp2_with (at_builtin; refine wpList_append_own _ rfl _ _ 115 rfl W0.heap.size 3 i0 (.int .i64 0) 1 8 Tryd.underlying115 hi0 hz0 hz1 hz2 rfl (by decide) _ _ _ rfl (HU5.out.alloc _) ⟨w5.heap.size, 0, none⟩ 1 1 [.int .i64 (m : Int)] rfl rfl ?c1 ?c2 ?c3 ?c4 ?c5 ?_)
                    case c1 => exact cells_new _ _ _
                    case c2 => intro u hu; simp only [List.mem_singleton] at hu; subst hu; rfl
                    case c3 => unfold maxLen; omega
                    case c4 => omega
                    case c5 => simp only [World.size_alloc]; omega
                    intro v' w6 hown' hgrow _
                    have HB6 := Lib.hid (HB5.out.trans (below_append HU5.out hgrow (Nat.le_refl W0.heap.size) hbs5))
                    have HU6 := Lib.hid hown'
                    clear hown' hgrow
                    go_wp2
                    go_roundw
                    case rel => exact ⟨j + 1, by go_num, by omega, Lib.hid (by rw [HE.out, List.length_append, numVals_snoc]; exact ⟨HU6.out, HB6.out⟩)⟩
                    case measure => simp only [intOf]; omega
                  · have HNI : Hid (m ∈ impUp ss (impP ss) k c.items j) := Lib.hid (mem_natInts.1 (by have := HQ.out; simpa using this))
                    have HE : Hid (impUp ss (impP ss) k c.items (j + 1) = impUp ss (impP ss) k c.items j) := Lib.hid (by rw [HST.out, impStep_in (HTG.out.trans ht) HNI.out])
                    go_wp2
                    go_roundw
                    case rel => exact ⟨j + 1, by go_num, by omega, Lib.hid (by rw [HE.out]; exact ⟨HU5.out, HB5.out⟩)⟩
                    case measure => simp only [intOf]; omega
            · have HE : Hid (impUp ss (impP ss) k c.items (j + 1) = impUp ss (impP ss) k c.items j) := Lib.hid (by rw [HST.out, impStep_none (targetP_not h1)])
              have hne : (((meantP ss k x.name).length : Int) == 1) = false := by simp; omega
              go_wp2
              go_roundw
              case rel => exact ⟨j + 1, by go_num, by omega, Lib.hid (by rw [HE.out]; exact ⟨HU3.out, HB3.out⟩)⟩
              case measure => simp only [intOf]; omega
          · have hq : (x.kind == 3) = false := by simpa using hkd
            have HE : Hid (impUp ss (impP ss) k c.items (j + 1) = impUp ss (impP ss) k c.items j) := Lib.hid (by rw [HST.out, impStep_other hkd])
            clear hkd
            go_wp2
            go_roundw
            case rel => exact ⟨j + 1, by go_num, by omega, Lib.hid (by rw [HE.out]; exact ⟨HUI.out, HBI.out⟩)⟩
            case measure => simp only [intOf]; omega
        · obtain rfl : j = c.items.length := by omega
          have HP6 := Lib.hid (hP.out.step (hU.out.2))
          obtain ⟨ou, cu, rfl, _⟩ := holdsInts_of_owns hU.out.1
          have HUL : Hid (wr.ownsRow w.heap.size 3 1 (.slice ou (natInts (impUp ss (impP ss) k c.items c.items.length)).length cu) (impF ss (impP ss) k).length (numVals (impF ss (impP ss) k))) := Lib.hid (by
            have h := ownsRow_lower hU.out.1 hP.out.below.size
            unfold impF
            rw [HIT.out]
            exact h)
          obtain ⟨hs, hrw, hls⟩ := HP6.out.row
          have HHS := Lib.hid (And.intro hrw hls)
          have hrw2 := hrw
          rw [tabP_length] at hrw2
          have HRW := Lib.hid hrw2
          have hbs6 := HP6.out.below.size
          obtain ⟨i0, hi0, hz0, hz1, hz2⟩ := info_parts infoSl
          clear hrw hls hrw2
          go_wp2_with (at_builtin; refine wpList_append_own _ rfl _ _ 201 rfl w.heap.size 115 i0 (.slice none 0 0) 1 24 Tryd.underlying201 hi0 hz0 hz1 hz2 rfl (by decide) _ _ _ rfl (HRW.out.alloc _) ⟨wr.heap.size, 0, none⟩ 1 1 [.slice ou (natInts (impUp ss (impP ss) k c.items c.items.length)).length cu] rfl rfl ?c1 ?c2 ?c3 ?c4 ?c5 ?_)
          case c1 => exact cells_new _ _ _
          case c2 => intro u' hu; simp only [List.mem_singleton] at hu; subst hu; rfl
          case c3 => unfold maxLen; omega
          case c4 => omega
          case c5 => simp only [World.size_alloc]; omega
          intro v' w6 hown' hgrow _
          have HNEW : Hid (TabAt w w6 (some ⟨bb, off, none⟩) cap ss.length v' (tabP ss (k + 1))) := Lib.hid (by
            rw [tabP_snoc HV.out.climbs]
            exact HP6.out.more HHS.out.1 HHS.out.2 HUL.out (by rw [tabP_length]; exact hown') hgrow)
          clear hown' hgrow
          go_wp2
          go_roundw
          case rel => exact ⟨k + 1, by go_num, by omega, HNEW⟩
          case measure => simp only [intOf]; omega
    · obtain rfl : k = ss.length := by omega
      go_wp2
      go_ret
      exact ⟨_, _, rfl, HTB.out, HTO.out, hP.out.below⟩
end Go.Proofs.YtadpgoiiopfnnaaDoor
namespace Go.Proofs.YtadpgoiiopfnnaaDoor
open Go Go.RowKit Go.Maps
attribute [local go_sem ↓] field_kind field_name field_scope
set_option maxRecDepth 100000 in
set_option maxHeartbeats 4000000 in
theorem specMeant_any (ss : List Sc) (hv : Valid ss) (hf : FitsScopes ss) (oa : Option Addr) (cap : Nat) (s : Nat) (hs : s < ss.length) (nm : ByteArray) (w : World) (hc : HoldsScopes w oa ss) :
    Calls Tryd.prog 121 #[.agg #[.slice oa ss.length cap], .int .i64 (s : Int), .string nm] w (PlsGot (meantP ss s nm) w) := by
  have hb0 := (Below.refl w.heap.size w).alloc (Nat.le_refl _) (.cells #[.slice oa ss.length cap] 30)
  have R := Lib.hid (Row.new w [.slice oa ss.length cap] 30)
  have g2 := R.out.cell (i := 0) (by rfl)
  have HB0 := Lib.hid hb0
  have HC := Lib.hid hc
  have HV := Lib.hid hv
  have HF := Lib.hid hf
  have HS := Lib.hid hs
  clear hv hf hc hb0 hs
  go_enter Tryd.func121, Tryd.ntmps121
  go_wp2
  go_cut [6] (fun s6 wx => ∃ o4 c4, s6 = .slice o4 (meantP ss s nm).length c4 ∧ wx.ownsRow w.heap.size 34 2 (.slice o4 (meantP ss s nm).length c4) (meantP ss s nm).length (placeCells (meantP ss s nm)) ∧ Below w.heap.size w wx)
  case first =>
    go_region_held3 (fun w' => w'.cell? ⟨w.heap.size, 0, none⟩ = some (.slice oa ss.length cap))
      (first | exact g2 | exact cell_drew g2 | exact cell_grow hb3 (cell_drew g2) | exact cell_grow hb4 (cell_grow hb3 (cell_drew g2)))
      (first | (go_at_call 152; refine (specTable_any ss HV.out HF.out oa cap _ (HC.out.below HB0.out.drew (Nat.le_refl _))).mono ?_; rintro e w3 ⟨o3, c3, rfl, ht3, -, hb3⟩) | (go_at_call 151; refine (specMeantBy_any ss HV.out oa cap ss.length (Nat.le_refl _) o3 c3 s (Nat.le_of_lt HS.out) HS.out nm _ (HC.out.below (HB0.out.drew.trans (hb3.mono HB0.out.drew.size)) (Nat.le_refl _)) ht3).mono ?_; rintro e w4 ⟨v4, rfl, hrow4, hb4⟩; obtain ⟨o4, c4, rfl⟩ := ownsRow_slice hrow4))
    all_goals go_wp2
    all_goals go_meet
    all_goals exact ⟨o4, c4, rfl, ownsRow_lower hrow4 (Nat.le_trans HB0.out.drew.size hb3.size), (HB0.out.drew.trans (hb3.mono HB0.out.drew.size)).trans (hb4.mono (Nat.le_trans HB0.out.drew.size hb3.size))⟩
  case rest =>
    obtain ⟨o4, c4, rfl, hrow4, hbc⟩ := hcut
    have HR := Lib.hid hrow4
    have HBC := Lib.hid hbc
    clear hrow4 hbc
    go_wp2
    go_ret
    exact ⟨_, rfl, HR.out, HBC.out⟩
theorem meantP_length {ss : List Sc} (hv : Valid ss) (s : Nat) (nm : ByteArray) : (meantP ss s nm).length ≤ 25 := by
  unfold meantP meantF
  split
  · split
    · simp
    · exact lookF_length hv _ _
  · have := ownP_length hv s nm; omega
/-- What ImportTarget answers. -/
def TgtVal (ss : List Sc) (a b z : Int) : Prop := (Valid ss ∧ ∃ x, itemAtP ss a b = some x ∧ x.kind = 3 ∧ z = targetP ss a.toNat x.name) ∨ (¬ (Valid ss ∧ ∃ x, itemAtP ss a b = some x ∧ x.kind = 3) ∧ z = -1)
theorem TgtVal.same {ss : List Sc} {a b z z' : Int} (h : TgtVal ss a b z) (k : TgtVal ss a b z') : z = z' := by
  rcases h with ⟨hv, x, hx, hk, rfl⟩ | ⟨hn, rfl⟩
  · rcases k with ⟨_, y, hy, _, rfl⟩ | ⟨kn, _⟩
    · rw [hx] at hy; cases hy; rfl
    · exact absurd ⟨hv, x, hx, hk⟩ kn
  · rcases k with ⟨kv, y, hy, kk, _⟩ | ⟨_, rfl⟩
    · exact absurd ⟨kv, y, hy, kk⟩ hn
    · rfl
def TgtGot (ss : List Sc) (a b : Int) (w : World) (e : Ending) (w' : World) : Prop := ∃ z, e = .returned (.int .i64 z) ∧ TgtVal ss a b z ∧ Below w.heap.size w w'
theorem itemAtP_some {ss : List Sc} {a b : Int} {x : It} (h : itemAtP ss a b = some x) : ∃ (i j : Nat) (c : Sc), a = (i : Int) ∧ b = (j : Int) ∧ ss[i]? = some c ∧ c.items[j]? = some x := by
  unfold itemAtP at h
  split at h
  · rename_i h0
    cases hc : ss[a.toNat]? with
    | none => rw [hc] at h; cases h
    | some c =>
      rw [hc] at h
      exact ⟨a.toNat, b.toNat, c, by omega, by omega, hc, h⟩
  · cases h
theorem look_any {w : World} {B T M1 M2 : Nat} {v : Value} {ds : List Nd} {ss : List Sc} (hv : Valid ss) (hT : TreeIs w B T M1 M2 v ds ss) {a b : Int} (w1 : (Lit.int .i64 a).wf = true) (w2 : (Lit.int .i64 b).wf = true) :
    (Instr.lookup 109 (.map (some M1)) (.agg #[.int .i64 a, .int .i64 b]) false).run Tryd.prog w = .ok (.agg #[.int .i64 ((itemAtP ss a b).getD zeroIt).kind, .string ((itemAtP ss a b).getD zeroIt).name, .int .i64 ((itemAtP ss a b).getD zeroIt).scope]) w := by
  obtain ⟨_, hat⟩ := look_item hv.small w1 w2
  obtain ⟨n1, hm⟩ := hT.items
  obtain ⟨v1, ps, hrun, hv1⟩ := hm.lookup (t := 109) (e := 65) placeLaw Tryd.underlying109 (zeroItem _) (itemR_mk zeroIt) (pl_key w1 w2)
  rw [hat] at hv1
  obtain rfl := itemR_eq hv1
  exact hrun
set_option maxRecDepth 100000 in
set_option maxHeartbeats 4000000 in
theorem implImportTarget_any (ss : List Sc) (hF : Fair ss) (oa : Option Addr) (cap : Nat) (a b : Int) (ha : (Lit.int .i64 a).wf = true) (hb' : (Lit.int .i64 b).wf = true) (w : World) (hc : HoldsScopes w oa ss) (hE : TreeErrs w) :
    Calls Tryd.prog 58 #[.agg #[.slice oa ss.length cap], .agg #[.int .i64 a, .int .i64 b]] w (TgtGot ss a b w) := by
  have hb0 : Below w.heap.size w ((w.alloc (.cells #[.slice oa ss.length cap] 30)).alloc (.cells #[.int .i64 a, .int .i64 b] 34)) := ((Below.refl _ _).alloc (Nat.le_refl _) _).alloc (by simp) _
  have C := Lib.hid (hF.tree oa cap _ (hc.below hb0 (Nat.le_refl _)) (hE.below hb0 hE.size))
  have RP : Hid (Row ((w.alloc (.cells #[.slice oa ss.length cap] 30)).alloc (.cells #[.int .i64 a, .int .i64 b] 34)) (w.heap.size + 1) 34 [.int .i64 a, .int .i64 b]) := Lib.hid (by
    have := Row.new (w.alloc (.cells #[.slice oa ss.length cap] 30)) [.int .i64 a, .int .i64 b] 34
    rw [World.size_alloc] at this
    exact this)
  have HB0 := Lib.hid hb0
  have HWF := Lib.hid (And.intro ha hb')
  clear hF hc hE hb0 ha hb'
  go_enter Tryd.func58, Tryd.ntmps58
  go_wp2_with fail
  refine C.out.mono ?_
  rintro e w1 (⟨hv, ⟨tp, p, rfl⟩, hb⟩ | ⟨hv, T, M1, M2, v, ds, rfl, hb, hT⟩)
  · have HB := Lib.hid (HB0.out.trans (hb.mono HB0.out.size))
    have HR : Hid (TgtVal ss a b (-1)) := Lib.hid (.inr ⟨fun h => hv h.1, rfl⟩)
    clear hv hb
    go_wp2
    go_region
    all_goals go_wp2
    all_goals go_ret
    all_goals exact ⟨_, rfl, HR.out, HB.out.drew⟩
  · have HB := Lib.hid (HB0.out.trans (hb.mono HB0.out.size))
    have RP1 := Lib.hid (RP.out.below hb RP.out.lt)
    have hTd := hT.below ((Below.refl w1.heap.size w1).drew)
    have hrun := look_any hv hTd HWF.out.1 HWF.out.2
    have t1 := hTd.tree.box.cell (i := 1) (by rfl)
    have p0 := cell_drew (RP1.out.cell (i := 0) (by rfl))
    have p1 := cell_drew (RP1.out.cell (i := 1) (by rfl))
    have HV := Lib.hid hv
    have HTd := Lib.hid hTd
    clear hb hT hTd hv
    obtain ⟨x, hxe⟩ : ∃ x, (itemAtP ss a b).getD zeroIt = x := ⟨_, rfl⟩
    rw [hxe] at hrun
    have HXE := Lib.hid hxe
    clear hxe
    by_cases hk : x.kind = 3
    · have hq : (x.kind == 3) = true := by simpa using hk
      have HX : Hid (itemAtP ss a b = some x) := Lib.hid (by
        cases h : itemAtP ss a b with
        | none =>
          have := HXE.out
          rw [h] at this
          subst this
          exact absurd hk (by decide)
        | some y =>
          have := HXE.out
          rw [h] at this
          subst this
          rfl)
      obtain ⟨i, j, c, rfl, rfl, hsc, hjx⟩ := itemAtP_some HX.out
      have HQ : Hid (IsItem ss (i, j)) := Lib.hid ⟨c, x, hsc, hjx⟩
      have HR : Hid (TgtVal ss (i : Int) (j : Int) (tgt ss (i, j))) := Lib.hid (.inl ⟨HV.out, x, HX.out, hk, by rw [tgt_of hsc hjx, Int.toNat_natCast]⟩)
      clear hk hsc hjx
      go_wp2
      go_region
      clear hrun t1
      have HTE := Lib.hid (HTd.out.below ((Below.refl _ _).drew))
      have HBE := Lib.hid (HB.out.drew.drew)
      have HNE : Hid (M1 ≠ w1.drew.drew.heap.size ∧ M2 ≠ w1.drew.drew.heap.size) := Lib.hid (by
        obtain ⟨_, h1⟩ := HTE.out.items
        obtain ⟨_, h2⟩ := HTE.out.mods
        have := h1.lt
        have := h2.lt
        omega)
      have hbl : w.heap.size + 1 < w1.drew.drew.heap.size := RP1.out.lt
      go_wp2
      go_cut [4] (fun s4 wx => s4 = .int .i64 (tgt ss (i, j)) ∧ Below w.heap.size w wx)
      case first =>
        go_region_held3 (fun w' => w'.cell? ⟨w.heap.size + 1, 0, none⟩ = some (.int .i64 (i : Int)) ∧ w'.cell? ⟨w.heap.size + 1, 1, none⟩ = some (.int .i64 (j : Int)))
          (first | exact ⟨p0, p1⟩ | exact ⟨cell_drew p0, cell_drew p1⟩ | exact ⟨cell_grow hb3 (cell_drew p0), cell_grow hb3 (cell_drew p1)⟩ | exact ⟨hc4.cell (Nat.lt_of_lt_of_le hbl hb3.size) (cell_grow hb3 (cell_drew p0)), hc4.cell (Nat.lt_of_lt_of_le hbl hb3.size) (cell_grow hb3 (cell_drew p1))⟩)
          (first | (go_at_call 96; refine (lookupIn_any T _).mono ?_; rintro e w3 ⟨rfl, hR3, hM3, hb3⟩) | (go_at_call 97; refine (target_any HV.out i j HQ.out _ (LookW.mk (HTE.out.below hb3) hR3 (memo_nil hM3) HNE.out.1 HNE.out.2)).mono ?_; rintro e w4 ⟨rfl, hl4⟩; have hc4 := hl4.turns.cellsM (memo_nil (ss := ss) hM3)))
        all_goals go_wp2
        all_goals go_meet
        all_goals exact ⟨rfl, (HBE.out.trans (hb3.mono HBE.out.size)).trans (hl4.turns.below HBE.out.size HBE.out.size (Nat.le_trans HBE.out.size hb3.size))⟩
      case rest =>
        obtain ⟨rfl, hbc⟩ := hcut
        have HBC := Lib.hid hbc
        clear hbc p0 p1
        go_wp2
        go_ret
        exact ⟨_, rfl, HR.out, HBC.out⟩
    · have hq : (x.kind == 3) = false := by simpa using hk
      have HR : Hid (TgtVal ss a b (-1)) := Lib.hid (.inr ⟨fun h => by
        obtain ⟨_, y, hy, hky⟩ := h
        have := HXE.out
        rw [hy] at this
        subst this
        exact hk hky, rfl⟩)
      clear hk
      go_wp2
      go_region
      all_goals go_wp2
      all_goals go_ret
      all_goals exact ⟨_, rfl, HR.out, HB.out.drew⟩
end Go.Proofs.YtadpgoiiopfnnaaDoor
namespace Go.Proofs.YtadpgoiiopfnnaaDoor
open Go Go.RowKit Go.Maps
attribute [local go_sem ↓] field_kind field_name field_scope field_places
/-- What the meanings answer at an item's place. -/
theorem mean_at {w : World} {B MR : Nat} {ss : List Sc} {l : List Ent} (hv : Valid ss) (h : MeanW w B MR ss l) (hf : l.map Prod.fst = placed 0 ss) {i j : Nat} {x : It} (hq : (i, j, x) ∈ placed 0 ss) :
    ∃ u, (Instr.lookup 105 (.map (some MR)) (.agg #[.int .i64 (i : Int), .int .i64 (j : Int)]) true).run Tryd.prog w = .ok (.tuple #[u, .bool true]) w ∧
      (Instr.lookup 105 (.map (some MR)) (.agg #[.int .i64 (i : Int), .int .i64 (j : Int)]) false).run Tryd.prog w = .ok u w ∧ w.ownsRow B 34 2 u (meanIt ss (i, j, x)).length (placeCells (meanIt ss (i, j, x))) := by
  have hlt := hv.small.lt hq
  have hx := placed_item hq
  dsimp only at hx hlt
  obtain ⟨u, h1, h2, h3⟩ := mean_look hv h hf (wf_small hlt.1) (wf_small hlt.2)
  rw [hx] at h1
  rcases h3 with ⟨h4, _⟩ | ⟨i', j', y, hi, hj, hy, _, h5⟩
  · rw [hx] at h4; cases h4
  · obtain rfl : i = i' := by omega
    obtain rfl : j = j' := by omega
    rw [hx] at hy
    cases hy
    exact ⟨u, h1, h2, h5⟩
/-- What the meanings answer at an item's place is one value wherever the map is the same. -/
theorem mean_fix {w : World} {B MR : Nat} {ss : List Sc} {l : List Ent} (hv : Valid ss) (h : MeanW w B MR ss l) (hf : l.map Prod.fst = placed 0 ss) {i j : Nat} {x : It} (hq : (i, j, x) ∈ placed 0 ss) :
    ∃ u, (∀ w' : World, w'.heap[MR]? = w.heap[MR]? → (Instr.lookup 105 (.map (some MR)) (.agg #[.int .i64 (i : Int), .int .i64 (j : Int)]) false).run Tryd.prog w' = .ok u w') ∧ w.ownsRow B 34 2 u (meanIt ss (i, j, x)).length (placeCells (meanIt ss (i, j, x))) := by
  have hlt := hv.small.lt hq
  dsimp only at hlt
  obtain ⟨e, he, hqe⟩ := List.mem_map.1 (hf ▸ hq)
  have e0 := putInto_at entKey entVal entKey_is (sliceD (.slice none 0 0)) l (.map []) nilMap (by rw [entKeys, hf]; exact plKey_apart hv.small) e he
  have ek : entKey e = plLit (i : Int) (j : Int) := by unfold entKey; rw [hqe]; rfl
  rw [ek] at e0
  have hl := h.lists e he
  have e0' : (entsD l).atKey (plLit (i : Int) (j : Int)) (sliceD (.slice none 0 0)) = sliceD e.2 := e0
  refine ⟨e.2, fun w' hw => ?_, by rw [hqe] at hl; exact hl⟩
  obtain ⟨v2, ps2, hrun2, hv2⟩ := (ownsMap_same h.map hw).lookup (t := 105) (e := 46) placeLaw Tryd.underlying105 (zeroSlice _) (by rfl) (pl_key (wf_small hlt.1) (wf_small hlt.2))
  obtain rfl := sliceR_eq (sliceR_own hl) (e0' ▸ hv2)
  exact hrun2
set_option maxRecDepth 100000 in
set_option maxHeartbeats 4000000 in
theorem state_any {ss : List Sc} (hv : Valid ss) {w : World} {B R T M1 M2 MR : Nat} {v : Value} {ds : List Nd} {l : List Ent} (hR : ResW w B R T M1 M2 MR v ds ss l) {i j : Nat} {x : It} (hq : (i, j, x) ∈ placed 0 ss) :
    Calls Tryd.prog 91 #[.pointer (some ⟨R, 0, none⟩), .agg #[.int .i64 (i : Int), .int .i64 (j : Int)], .agg #[.int .i64 x.kind, .string x.name, .int .i64 x.scope]] w fun e w' => e = .returned (.int .i64 (stateIt ss (i, j, x))) ∧ Below w.heap.size w w' := by
  have hb0 : Below w.heap.size w ((w.alloc (.cells #[.int .i64 (i : Int), .int .i64 (j : Int)] 34)).alloc (.cells #[.int .i64 x.kind, .string x.name, .int .i64 x.scope] 65)).drew := (((Below.refl _ _).alloc (Nat.le_refl _) _).alloc (by simp) _).drew
  have HR1 := Lib.hid (hR.below hb0)
  have HB0 := Lib.hid hb0
  have p0 := cell_drew (((Row.new w [.int .i64 (i : Int), .int .i64 (j : Int)] 34).alloc (.cells #[.int .i64 x.kind, .string x.name, .int .i64 x.scope] 65)).cell (i := 0) (by rfl))
  have p1 := cell_drew (((Row.new w [.int .i64 (i : Int), .int .i64 (j : Int)] 34).alloc (.cells #[.int .i64 x.kind, .string x.name, .int .i64 x.scope] 65)).cell (i := 1) (by rfl))
  have hX := Row.new (w.alloc (.cells #[.int .i64 (i : Int), .int .i64 (j : Int)] 34)) [.int .i64 x.kind, .string x.name, .int .i64 x.scope] 65
  rw [World.size_alloc] at hX
  have x0 := cell_drew (hX.cell (i := 0) (by rfl))
  have r1 := HR1.out.box.cell (i := 1) (by rfl)
  have r0 := HR1.out.box.cell (i := 0) (by rfl)
  obtain ⟨u, -, hrun, hown⟩ := mean_at hv HR1.out.mean HR1.out.full hq
  obtain ⟨ou, cu, rfl, harg⟩ := argPlaces_of_owns hown
  have C := Lib.hid (moduleAlone_any (cap := cu) hv HR1.out.tree (by have := meanIt_length hv (i, j, x); omega) (meanIt_isPlace hq) harg)
  have HST : Hid (stateIt ss (i, j, x) = if (meanIt ss (i, j, x)).length = 0 then 2 else if 1 < (meanIt ss (i, j, x)).length then 3 else if x.kind = 3 ∧ aloneP ss (meanIt ss (i, j, x)) = -1 then 4 else 1) := Lib.hid rfl
  clear hb0 hR hX hown harg
  generalize meanIt ss (i, j, x) = ml at *
  by_cases h0 : ml.length = 0
  · have HE : Hid (stateIt ss (i, j, x) = 2) := Lib.hid (by rw [HST.out, if_pos h0])
    have k0 : ((ml.length : Int) == 0) = true := by rw [h0]; rfl
    clear h0 hv hq
    go_enter Tryd.func91, Tryd.ntmps91
    go_wp2
    go_region
    all_goals go_wp2
    all_goals go_ret
    all_goals exact ⟨by rw [HE.out]; rfl, HB0.out⟩
  · have k0 : ((ml.length : Int) == 0) = false := beq_eq_false_iff_ne.2 (by omega)
    by_cases h1 : 1 < ml.length
    · have HE : Hid (stateIt ss (i, j, x) = 3) := Lib.hid (by rw [HST.out, if_neg h0, if_pos h1])
      have k1 : (1 : Int) < (ml.length : Int) := by omega
      clear h0 h1 hv hq
      go_enter Tryd.func91, Tryd.ntmps91
      go_wp2
      go_region
      all_goals go_wp2
      all_goals go_ret
      all_goals exact ⟨by rw [HE.out]; rfl, HB0.out⟩
    · have k1 : ¬ (1 : Int) < (ml.length : Int) := by omega
      by_cases hk : x.kind = 3
      · have hq3 : (x.kind == 3) = true := by simpa using hk
        by_cases ha : aloneP ss ml = -1
        · have HE : Hid (stateIt ss (i, j, x) = 4) := Lib.hid (by rw [HST.out, if_neg h0, if_neg h1, if_pos ⟨hk, ha⟩])
          rw [ha] at C
          clear h0 h1 hv hq hk ha
          go_enter Tryd.func91, Tryd.ntmps91
          go_wp2
          go_region
          go_wp2_with fail
          refine C.out.mono ?_
          rintro e w3 ⟨rfl, hb3⟩
          have HB3 := Lib.hid (HB0.out.trans (hb3.mono HB0.out.size))
          clear hb3
          go_wp2
          go_ret
          exact ⟨by rw [HE.out]; rfl, HB3.out⟩
        · have HE : Hid (stateIt ss (i, j, x) = 1) := Lib.hid (by rw [HST.out, if_neg h0, if_neg h1, if_neg (fun h => ha h.2)])
          have ka : (aloneP ss ml == -1) = false := by simpa using ha
          clear h0 h1 hv hq hk ha
          go_enter Tryd.func91, Tryd.ntmps91
          go_wp2
          go_region
          go_wp2_with fail
          refine C.out.mono ?_
          rintro e w3 ⟨rfl, hb3⟩
          have HB3 := Lib.hid (HB0.out.trans (hb3.mono HB0.out.size))
          clear hb3
          go_wp2
          go_ret
          exact ⟨by rw [HE.out]; rfl, HB3.out⟩
      · have hq3 : (x.kind == 3) = false := by simpa using hk
        have HE : Hid (stateIt ss (i, j, x) = 1) := Lib.hid (by rw [HST.out, if_neg h0, if_neg h1, if_neg (fun h => hk h.1)])
        clear h0 h1 hv hq hk
        go_enter Tryd.func91, Tryd.ntmps91
        go_wp2
        go_region
        all_goals go_wp2
        all_goals go_ret
        all_goals exact ⟨by rw [HE.out]; rfl, HB0.out⟩
/-- There is an item; what it means. -/
def meanAt (ss : List Sc) (a b : Int) : List (Int × Int) := match itemAtP ss a b with
  | none => []
  | some x => meanIt ss (a.toNat, b.toNat, x)
theorem meanAt_of {ss : List Sc} {i j : Nat} {x : It} (h : (i, j, x) ∈ placed 0 ss) : meanAt ss (i : Int) (j : Int) = meanIt ss (i, j, x) := by
  have := placed_item h
  dsimp only at this
  unfold meanAt
  rw [this]
  rfl
theorem itemHas_of {ss : List Sc} (hv : Valid ss) {i j : Nat} {x : It} (h : (i, j, x) ∈ placed 0 ss) : itemHas ss (i : Int) (j : Int) := by
  have := placed_item h
  dsimp only at this
  exact ⟨hv, by rw [this]; rfl⟩
/-- What StateOf answers. -/
def StVal (ss : List Sc) (a b z : Int) : Prop := (Valid ss ∧ ∃ i j x, a = (i : Nat) ∧ b = (j : Nat) ∧ (i, j, x) ∈ placed 0 ss ∧ z = stateIt ss (i, j, x)) ∨ (¬ itemHas ss a b ∧ z = 0)
theorem StVal.same {ss : List Sc} {a b z z' : Int} (h : StVal ss a b z) (k : StVal ss a b z') : z = z' := by
  rcases h with ⟨hv, i, j, x, rfl, rfl, hx, rfl⟩ | ⟨hn, rfl⟩
  · rcases k with ⟨_, i', j', y, hi, hj, hy, rfl⟩ | ⟨kn, _⟩
    · obtain rfl : i = i' := by omega
      obtain rfl : j = j' := by omega
      have h1 := placed_item hx
      have h2 := placed_item hy
      dsimp only at h1 h2
      rw [h1] at h2
      cases h2
      rfl
    · exact absurd (itemHas_of hv hx) kn
  · rcases k with ⟨kv, i', j', y, rfl, rfl, hy, _⟩ | ⟨_, rfl⟩
    · exact absurd (itemHas_of kv hy) hn
    · rfl
def StGot (ss : List Sc) (a b : Int) (w : World) (e : Ending) (w' : World) : Prop := ∃ z, e = .returned (.int .i64 z) ∧ StVal ss a b z ∧ Below w.heap.size w w'
set_option maxRecDepth 100000 in
set_option maxHeartbeats 4000000 in
theorem implResolveItem_any (ss : List Sc) (hF : Fair ss) (oa : Option Addr) (cap : Nat) (a b : Int) (ha : (Lit.int .i64 a).wf = true) (hb' : (Lit.int .i64 b).wf = true) (w : World) (hc : HoldsScopes w oa ss) (hE : TreeErrs w) :
    Calls Tryd.prog 48 #[.agg #[.slice oa ss.length cap], .agg #[.int .i64 a, .int .i64 b]] w (PlGot (itemHas ss a b) (meanAt ss a b) w) := by
  have hb0 : Below w.heap.size w ((w.alloc (.cells #[.slice oa ss.length cap] 30)).alloc (.cells #[.int .i64 a, .int .i64 b] 34)) := ((Below.refl _ _).alloc (Nat.le_refl _) _).alloc (by simp) _
  have C := Lib.hid (resolutionOf_any ss hF oa cap _ (hc.below hb0 (Nat.le_refl _)) (hE.below hb0 hE.size))
  have RP : Hid (Row ((w.alloc (.cells #[.slice oa ss.length cap] 30)).alloc (.cells #[.int .i64 a, .int .i64 b] 34)) (w.heap.size + 1) 34 [.int .i64 a, .int .i64 b]) := Lib.hid (by
    have := Row.new (w.alloc (.cells #[.slice oa ss.length cap] 30)) [.int .i64 a, .int .i64 b] 34
    rw [World.size_alloc] at this
    exact this)
  have HB0 := Lib.hid hb0
  have HWF := Lib.hid (And.intro ha hb')
  clear hF hc hE hb0 ha hb'
  go_enter Tryd.func48, Tryd.ntmps48
  go_wp2_with fail
  refine C.out.mono ?_
  rintro e w1 (⟨hv, ⟨tp, p, rfl⟩, hb⟩ | ⟨hv, R, T, M1, M2, MR, v, ds, l, rfl, hb, hR⟩)
  · have HB := Lib.hid (HB0.out.trans (hb.mono HB0.out.size))
    have HN : Hid (¬ itemHas ss a b) := Lib.hid (fun h => hv h.1)
    clear hv hb
    go_wp2
    go_ret2
    exact .inl ⟨HN.out, rfl, HB.out⟩
  · have HB := Lib.hid (HB0.out.trans (hb.mono HB0.out.size))
    have RP1 := Lib.hid (RP.out.below hb RP.out.lt)
    have hRd := hR.below ((Below.refl w1.heap.size w1).drew)
    obtain ⟨u, hrun, -, hcase⟩ := mean_look hv hRd.mean hRd.full HWF.out.1 HWF.out.2
    have r1 := hRd.box.cell (i := 1) (by rfl)
    have p0 := cell_drew (RP1.out.cell (i := 0) (by rfl))
    have p1 := cell_drew (RP1.out.cell (i := 1) (by rfl))
    have HS0 := Lib.hid HB0.out.size
    have HV := Lib.hid hv
    clear hb hR hRd hv
    rcases hcase with ⟨hx, rfl⟩ | ⟨i, j, x, rfl, rfl, hx, hq, hown⟩
    · have HN : Hid (¬ itemHas ss a b) := Lib.hid (fun h => by have := h.2; rw [hx] at this; cases this)
      rw [hx] at hrun
      clear hx
      simp only [Option.isSome_none] at hrun
      go_wp2
      go_region
      all_goals go_wp2
      all_goals go_ret2
      all_goals exact .inl ⟨HN.out, rfl, HB.out.drew⟩
    · have HH := Lib.hid (itemHas_of HV.out hq)
      have HM := Lib.hid (meanAt_of hq)
      have HO := Lib.hid hown
      rw [hx] at hrun
      clear hx hq hown
      simp only [Option.isSome_some] at hrun
      go_wp2
      go_region
      all_goals go_wp2
      all_goals go_ret2
      all_goals exact .inr ⟨HH.out, u, rfl, by rw [HM.out]; exact ownsRow_lower HO.out HS0.out, HB.out.drew⟩
set_option maxRecDepth 100000 in
set_option maxHeartbeats 4000000 in
theorem implStateOf_any (ss : List Sc) (hF : Fair ss) (oa : Option Addr) (cap : Nat) (a b : Int) (ha : (Lit.int .i64 a).wf = true) (hb' : (Lit.int .i64 b).wf = true) (w : World) (hc : HoldsScopes w oa ss) (hE : TreeErrs w) :
    Calls Tryd.prog 50 #[.agg #[.slice oa ss.length cap], .agg #[.int .i64 a, .int .i64 b]] w (StGot ss a b w) := by
  have hb0 : Below w.heap.size w ((w.alloc (.cells #[.slice oa ss.length cap] 30)).alloc (.cells #[.int .i64 a, .int .i64 b] 34)) := ((Below.refl _ _).alloc (Nat.le_refl _) _).alloc (by simp) _
  have C := Lib.hid (resolutionOf_any ss hF oa cap _ (hc.below hb0 (Nat.le_refl _)) (hE.below hb0 hE.size))
  have RP : Hid (Row ((w.alloc (.cells #[.slice oa ss.length cap] 30)).alloc (.cells #[.int .i64 a, .int .i64 b] 34)) (w.heap.size + 1) 34 [.int .i64 a, .int .i64 b]) := Lib.hid (by
    have := Row.new (w.alloc (.cells #[.slice oa ss.length cap] 30)) [.int .i64 a, .int .i64 b] 34
    rw [World.size_alloc] at this
    exact this)
  have HB0 := Lib.hid hb0
  have HWF := Lib.hid (And.intro ha hb')
  clear hF hc hE hb0 ha hb'
  go_enter Tryd.func50, Tryd.ntmps50
  go_wp2_with fail
  refine C.out.mono ?_
  rintro e w1 (⟨hv, ⟨tp, p, rfl⟩, hb⟩ | ⟨hv, R, T, M1, M2, MR, v, ds, l, rfl, hb, hR⟩)
  · have HB := Lib.hid (HB0.out.trans (hb.mono HB0.out.size))
    have HN : Hid (¬ itemHas ss a b) := Lib.hid (fun h => hv h.1)
    clear hv hb
    go_wp2
    go_ret
    exact ⟨_, rfl, .inr ⟨HN.out, rfl⟩, HB.out⟩
  · have HB := Lib.hid (HB0.out.trans (hb.mono HB0.out.size))
    have RP1 := Lib.hid (RP.out.below hb RP.out.lt)
    have HRW1 := Lib.hid hR
    obtain ⟨hhas, hat⟩ := look_item hv.small HWF.out.1 HWF.out.2
    obtain ⟨n1, hm⟩ := hR.tree.items
    obtain ⟨v1, ps, hrun, hv1⟩ := (ownsMap_below hm ((Below.refl _ _).drew)).look_ok (t := 109) (e := 65) placeLaw Tryd.underlying109 (zeroItem _) (itemR_mk zeroIt) (pl_key HWF.out.1 HWF.out.2)
    have hbA := ((Below.refl w1.heap.size w1).alloc (Nat.le_refl _) (.cells #[.int .i64 0, .string ⟨#[]⟩, .int .i64 0] 65)).drew
    obtain ⟨v2, ps2, hrun2, hv2⟩ := (ownsMap_below hm hbA).look_ok (t := 109) (e := 65) placeLaw Tryd.underlying109 (zeroItem _) (itemR_mk zeroIt) (pl_key HWF.out.1 HWF.out.2)
    rw [hat] at hv1 hv2
    obtain rfl := itemR_eq hv1
    obtain rfl := itemR_eq hv2
    rw [hhas] at hrun hrun2
    have T1 := hR.tree.tree.box
    have t1 := T1.cell (i := 1) (by rfl)
    have t1' := (((Below.refl _ _).drew).cell (p := ⟨T, 1, none⟩) T1.lt).trans t1
    have t1A := (hbA.cell (p := ⟨T, 1, none⟩) T1.lt).trans t1
    have r1 := hR.box.cell (i := 0) (by rfl)
    have r1' := cell_drew r1
    have r1A := (hbA.cell (p := ⟨R, 0, none⟩) hR.box.lt).trans r1
    have p0 := RP1.out.cell (i := 0) (by rfl)
    have p1 := RP1.out.cell (i := 1) (by rfl)
    have p0' := cell_drew p0
    have p1' := cell_drew p1
    have p0A := (hbA.cell (p := ⟨w.heap.size + 1, 0, none⟩) RP1.out.lt).trans p0
    have p1A := (hbA.cell (p := ⟨w.heap.size + 1, 1, none⟩) RP1.out.lt).trans p1
    have HV := Lib.hid hv
    clear hb hhas hat hv1 hv2 hR hm hbA T1 hv
    have hcase : itemAtP ss a b = none ∨ ∃ x, itemAtP ss a b = some x := by cases itemAtP ss a b <;> simp
    rcases hcase with hx | ⟨x, hx⟩
    · have HN : Hid (¬ itemHas ss a b) := Lib.hid (fun h => by have := h.2; rw [hx] at this; cases this)
      rw [hx] at hrun hrun2
      simp only [Option.isSome_none, Option.getD_none, itV, zeroIt] at hrun hrun2
      clear hx
      go_wp2
      go_cut [7, 8] (fun s7 s8 wx => s8 = .bool false ∧ Below w1.heap.size w1 wx)
      case first =>
        go_region
        all_goals go_wp2
        all_goals go_meet
        all_goals exact ⟨rfl, ((Below.refl _ _).alloc (Nat.le_refl _) _).drew⟩
      case rest =>
        obtain ⟨rfl, hbc⟩ := hcut
        have HBC := Lib.hid (HB.out.trans (hbc.mono HB.out.size))
        clear hrun hrun2 t1 t1' t1A p0 p1 p0A p1A r1 r1' r1A p0' p1' hbc
        go_wp2
        go_ret
        exact ⟨_, rfl, .inr ⟨HN.out, rfl⟩, HBC.out⟩
    · obtain ⟨i, j, rfl, rfl, hq⟩ := item_placed hx
      have HQ := Lib.hid hq
      rw [hx] at hrun hrun2
      simp only [Option.isSome_some, Option.getD_some, itV] at hrun hrun2
      clear hx hq
      go_wp2
      go_cut [7, 8] (fun s7 s8 wx => s8 = .bool true ∧ ∃ g, s7 = .pointer (some ⟨g, 0, none⟩) ∧ w1.heap.size ≤ g ∧ Row wx g 65 [.int .i64 x.kind, .string x.name, .int .i64 x.scope] ∧ Below w1.heap.size w1 wx)
      case first =>
        go_region
        all_goals go_wp2
        all_goals go_meet
        all_goals exact ⟨rfl, _, rfl, Nat.le_refl _, Row.new w1 [.int .i64 x.kind, .string x.name, .int .i64 x.scope] 65, ((Below.refl _ _).alloc (Nat.le_refl _) _).drew⟩
      case rest =>
        obtain ⟨rfl, g, rfl, hg, hrow, hbc⟩ := hcut
        have HBC := Lib.hid (HB.out.trans (hbc.mono HB.out.size))
        have RP2 := Lib.hid (RP1.out.below hbc RP1.out.lt)
        have k0 := hrow.cell (i := 0) (by rfl)
        have k1 := hrow.cell (i := 1) (by rfl)
        have k2 := hrow.cell (i := 2) (by rfl)
        have q0 := RP2.out.cell (i := 0) (by rfl)
        have q1 := RP2.out.cell (i := 1) (by rfl)
        have C3 := Lib.hid (state_any HV.out (HRW1.out.below hbc) HQ.out)
        clear hrun hrun2 t1 t1' t1A p0 p1 p0A p1A r1 r1' r1A p0' p1' hrow hbc
        go_wp2_with fail
        refine C3.out.mono ?_
        rintro e w3 ⟨rfl, hb3⟩
        have HB3 := Lib.hid (HBC.out.trans (hb3.mono HBC.out.size))
        clear hb3
        go_wp2
        go_ret
        exact ⟨_, rfl, .inl ⟨HV.out, i, j, x, rfl, rfl, HQ.out, rfl⟩, HB3.out⟩
end Go.Proofs.YtadpgoiiopfnnaaDoor
namespace Go.Proofs.YtadpgoiiopfnnaaDoor
open Go Go.RowKit Go.Maps
set_option maxRecDepth 100000 in
set_option maxHeartbeats 4000000 in
theorem specWay_any (ss : List Sc) (hv : Valid ss) (hf : FitsScopes ss) (oa : Option Addr) (cap : Nat) (s : Nat) (hs : s < ss.length) (nm : ByteArray) (w : World) (hc : HoldsScopes w oa ss) :
    Calls Tryd.prog 150 #[.agg #[.slice oa ss.length cap], .int .i64 (s : Int), .string nm] w (WayGot (lookP ss s nm) w) := by
  have hb0 := (Below.refl w.heap.size w).alloc (Nat.le_refl _) (.cells #[.slice oa ss.length cap] 30)
  have R := Lib.hid (Row.new w [.slice oa ss.length cap] 30)
  have g2 := R.out.cell (i := 0) (by rfl)
  have HB0 := Lib.hid hb0
  have HC := Lib.hid hc
  have HV := Lib.hid hv
  have HF := Lib.hid hf
  have HS := Lib.hid hs
  clear hv hf hc hb0 hs
  go_enter Tryd.func150, Tryd.ntmps150
  go_wp2
  go_cut [6, 7, 8] (fun s6 s7 s8 wx => s6 = .int .i64 (lookP ss s nm).scope ∧ s7 = .int .i64 (lookP ss s nm).way ∧ ∃ o4 c4, s8 = .slice o4 (lookP ss s nm).places.length c4 ∧ wx.ownsRow w.heap.size 34 2 (.slice o4 (lookP ss s nm).places.length c4) (lookP ss s nm).places.length (placeCells (lookP ss s nm).places) ∧ Below w.heap.size w wx)
  case first =>
    go_region_held3 (fun w' => w'.cell? ⟨w.heap.size, 0, none⟩ = some (.slice oa ss.length cap))
      (first | exact g2 | exact cell_drew g2 | exact cell_grow hb3 (cell_drew g2) | exact cell_grow hb4 (cell_grow hb3 (cell_drew g2)))
      (first | (go_at_call 152; refine (specTable_any ss HV.out HF.out oa cap _ (HC.out.below HB0.out.drew (Nat.le_refl _))).mono ?_; rintro e w3 ⟨o3, c3, rfl, ht3, -, hb3⟩) | (go_at_call 165; refine (specWayBy_any ss HV.out oa cap ss.length (Nat.le_refl _) o3 c3 s HS.out nm _ (HC.out.below (HB0.out.drew.trans (hb3.mono HB0.out.drew.size)) (Nat.le_refl _)) ht3).mono ?_; rintro e w4 ⟨v4, rfl, hrow4, hb4⟩; obtain ⟨o4, c4, rfl⟩ := ownsRow_slice hrow4))
    all_goals go_wp2
    all_goals go_meet
    all_goals exact ⟨rfl, rfl, o4, c4, rfl, ownsRow_lower hrow4 (Nat.le_trans HB0.out.drew.size hb3.size), (HB0.out.drew.trans (hb3.mono HB0.out.drew.size)).trans (hb4.mono (Nat.le_trans HB0.out.drew.size hb3.size))⟩
  case rest =>
    obtain ⟨rfl, rfl, o4, c4, rfl, hrow4, hbc⟩ := hcut
    have HR := Lib.hid hrow4
    have HBC := Lib.hid hbc
    clear hrow4 hbc
    go_wp2
    go_ret3
    exact ⟨_, rfl, HR.out, HBC.out⟩
set_option maxRecDepth 100000 in
theorem specLookUp3_any (ss : List Sc) (hv : Valid ss) (hf : FitsScopes ss) (oa : Option Addr) (cap : Nat) (s : Nat) (hs : s < ss.length) (nm : ByteArray) (w : World) (hc : HoldsScopes w oa ss) :
    Calls Tryd.prog 120 #[.agg #[.slice oa ss.length cap], .int .i64 (s : Int), .string nm] w (PlsGot (lookP ss s nm).places w) := by
  have hb0 := (Below.refl w.heap.size w).alloc (Nat.le_refl _) (.cells #[.slice oa ss.length cap] 30)
  have C := Lib.hid (specWay_any ss hv hf oa cap s hs nm _ (hc.below hb0 (Nat.le_refl _)))
  have HB0 := Lib.hid hb0
  clear hv hf hc hb0 hs
  go_enter Tryd.func120, Tryd.ntmps120
  go_wp2_with fail
  refine C.out.mono ?_
  rintro e w1 ⟨u, rfl, hrow, hb⟩
  have HB := Lib.hid (HB0.out.trans (hb.mono HB0.out.size))
  have HR := Lib.hid (ownsRow_lower hrow HB0.out.size)
  clear hb hrow
  go_wp2
  go_ret
  exact ⟨_, rfl, HR.out, HB.out⟩
end Go.Proofs.YtadpgoiiopfnnaaDoor
namespace Go.Proofs.YtadpgoiiopfnnaaDoor
open Go Go.RowKit Go.Maps
attribute [local go_sem] Oper.semAt_some
/-- The places of the items in a state among some items, in order. -/
def stsOf (ss : List Sc) (z : Int) (l : List (Nat × Nat × It)) : List (Int × Int) := (l.filter fun q => stateIt ss q == z).map fun q => ((q.1 : Int), (q.2.1 : Int))
theorem stsOf_snoc (ss : List Sc) (z : Int) (l : List (Nat × Nat × It)) (q : Nat × Nat × It) : stsOf ss z (l ++ [q]) = stsOf ss z l ++ if stateIt ss q = z then [((q.1 : Int), (q.2.1 : Int))] else [] := by
  unfold stsOf
  rw [List.filter_append, List.map_append]
  congr 1
  by_cases h : stateIt ss q = z
  · rw [if_pos h]; simp [h]
  · rw [if_neg h]; simp [h]
theorem stsOf_length (ss : List Sc) (z : Int) (l : List (Nat × Nat × It)) : (stsOf ss z l).length ≤ l.length := by
  unfold stsOf
  rw [List.length_map]
  exact List.length_filter_le _ _
def stsP (ss : List Sc) (z : Int) : List (Int × Int) := stsOf ss z (placed 0 ss)
def stOk (ss : List Sc) (z : Int) : Prop := Valid ss ∧ inB z 1 4 = true
theorem st_in (z : Int) : inB z 1 4 = true ↔ 1 ≤ z ∧ z ≤ 4 := by simp [inB]
def elSt {ss : List Sc} (z : Int) (pre : List (El ss)) : List (Int × Int) := stsOf ss z (pre.map Subtype.val)
/-- What IsSound answers. -/
def SoundVal (ss : List Sc) (b : Bool) : Prop := b = true ↔ Valid ss ∧ ∀ q ∈ placed 0 ss, stateIt ss q = 1
theorem SoundVal.same {ss : List Sc} {a b : Bool} (h : SoundVal ss a) (k : SoundVal ss b) : a = b := Bool.eq_iff_iff.2 (h.trans k.symm)
end Go.Proofs.YtadpgoiiopfnnaaDoor
namespace Go.Proofs.YtadpgoiiopfnnaaDoor
open Go Go.RowKit Go.Maps
attribute [local go_sem ↓] field_kind field_name field_scope
set_option maxRecDepth 100000 in
set_option maxHeartbeats 4000000 in
theorem specResolve_any (ss : List Sc) (hv : Valid ss) (hf : FitsScopes ss) (oa : Option Addr) (cap : Nat) {i j : Nat} {x : It} (hq : (i, j, x) ∈ placed 0 ss) (w : World) (hc : HoldsScopes w oa ss) :
    Calls Tryd.prog 82 #[.agg #[.slice oa ss.length cap], .agg #[.int .i64 (i : Int), .int .i64 (j : Int)]] w (PlsGot (meanIt ss (i, j, x)) w) := by
  have hb0 : Below w.heap.size w ((w.alloc (.cells #[.slice oa ss.length cap] 30)).alloc (.cells #[.int .i64 (i : Int), .int .i64 (j : Int)] 34)) := ((Below.refl _ _).alloc (Nat.le_refl _) _).alloc (by simp) _
  have RG := Lib.hid ((Row.new w [.slice oa ss.length cap] 30).alloc (.cells #[.int .i64 (i : Int), .int .i64 (j : Int)] 34))
  have RP : Hid (Row ((w.alloc (.cells #[.slice oa ss.length cap] 30)).alloc (.cells #[.int .i64 (i : Int), .int .i64 (j : Int)] 34)) (w.heap.size + 1) 34 [.int .i64 (i : Int), .int .i64 (j : Int)]) := Lib.hid (by
    have := Row.new (w.alloc (.cells #[.slice oa ss.length cap] 30)) [.int .i64 (i : Int), .int .i64 (j : Int)] 34
    rw [World.size_alloc] at this
    exact this)
  obtain ⟨c, hsc, hx⟩ := placed_at hq
  dsimp only at hsc hx
  have C := Lib.hid (specAt_any ss hf oa cap i j c x hsc hx _ (hc.below hb0 (Nat.le_refl _)))
  have HSL := Lib.hid (List.getElem?_eq_some_iff.1 hsc).1
  have HB0 := Lib.hid hb0
  have HC := Lib.hid hc
  have HF := Lib.hid hf
  have HV := Lib.hid hv
  have HK : Hid (meanIt ss (i, j, x) = if x.kind = 2 then (lookP ss i x.name).places else if x.kind = 3 then meantP ss i x.name else [((i : Int), (j : Int))]) := Lib.hid rfl
  clear hf hc hb0 hv hq hsc hx
  unfold itV at C
  go_enter Tryd.func82, Tryd.ntmps82
  go_wp2_with fail
  refine C.out.mono ?_
  rintro e w1 ⟨rfl, hb1⟩
  have hbx := hb1.trans ((Below.refl w1.heap.size w1).alloc (Nat.le_refl _) (.cells #[.int .i64 x.kind, .string x.name, .int .i64 x.scope] 65) |>.mono hb1.size)
  have HB2 := Lib.hid (HB0.out.trans (hbx.mono HB0.out.size))
  have g2 := (RG.out.below hbx RG.out.lt).cell (i := 0) (v := .slice oa ss.length cap) (by rfl)
  have p2 := (RP.out.below hbx RP.out.lt).cell (i := 0) (v := .int .i64 (i : Int)) (by rfl)
  have p3 := (RP.out.below hbx RP.out.lt).cell (i := 1) (v := .int .i64 (j : Int)) (by rfl)
  clear hb1 hbx
  by_cases hk2 : x.kind = 2
  · have hq2 : (x.kind == 2) = true := by simpa using hk2
    have HE : Hid (meanIt ss (i, j, x) = (lookP ss i x.name).places) := Lib.hid (by rw [HK.out, if_pos hk2])
    have C2 := Lib.hid (specLookUp3_any ss HV.out HF.out oa cap i HSL.out x.name _ (HC.out.below HB2.out (Nat.le_refl _)))
    clear hk2
    go_wp2_with fail
    refine C2.out.mono ?_
    rintro e w3 ⟨u, rfl, hu, hb3⟩
    have HB3 := Lib.hid (HB2.out.trans (hb3.mono HB2.out.size))
    have HU := Lib.hid (ownsRow_lower hu HB2.out.size)
    clear hb3 hu
    go_wp2
    go_ret
    exact ⟨_, rfl, by rw [HE.out]; exact HU.out, HB3.out⟩
  · have hq2 : (x.kind == 2) = false := by simpa using hk2
    by_cases hk3 : x.kind = 3
    · have hq3 : (x.kind == 3) = true := by simpa using hk3
      have HE : Hid (meanIt ss (i, j, x) = meantP ss i x.name) := Lib.hid (by rw [HK.out, if_neg hk2, if_pos hk3])
      have C2 := Lib.hid (specMeant_any ss HV.out HF.out oa cap i HSL.out x.name _ (HC.out.below HB2.out (Nat.le_refl _)))
      clear hk2 hk3
      go_wp2_with fail
      refine C2.out.mono ?_
      rintro e w3 ⟨u, rfl, hu, hb3⟩
      have HB3 := Lib.hid (HB2.out.trans (hb3.mono HB2.out.size))
      have HU := Lib.hid (ownsRow_lower hu HB2.out.size)
      clear hb3 hu
      go_wp2
      go_ret
      exact ⟨_, rfl, by rw [HE.out]; exact HU.out, HB3.out⟩
    · have hq3 : (x.kind == 3) = false := by simpa using hk3
      have HE : Hid (meanIt ss (i, j, x) = [((i : Int), (j : Int))]) := Lib.hid (by rw [HK.out, if_neg hk2, if_neg hk3])
      have hO := ownsRow_one (W := w1.alloc (.cells #[.int .i64 x.kind, .string x.name, .int .i64 x.scope] 65)) HB2.out.size (i : Int) (j : Int)
      rw [World.size_alloc] at hO
      have HO := Lib.hid hO
      clear hk2 hk3 hO
      go_wp2
      go_ret
      exact ⟨_, rfl, by rw [HE.out]; exact HO.out, HB2.out.alloc HB2.out.size _⟩
set_option maxRecDepth 100000 in
set_option maxHeartbeats 4000000 in
theorem specResolveItem_any (ss : List Sc) (hf : FitsScopes ss) (oa : Option Addr) (cap : Nat) (a b : Int) (w : World) (hc : HoldsScopes w oa ss) :
    Calls Tryd.prog 49 #[.agg #[.slice oa ss.length cap], .agg #[.int .i64 a, .int .i64 b]] w (PlGot2 (itemHas ss a b) (meanAt ss a b) w) := by
  have hb0 : Below w.heap.size w ((w.alloc (.cells #[.slice oa ss.length cap] 30)).alloc (.cells #[.int .i64 a, .int .i64 b] 34)) := ((Below.refl _ _).alloc (Nat.le_refl _) _).alloc (by simp) _
  have RG := Lib.hid ((Row.new w [.slice oa ss.length cap] 30).alloc (.cells #[.int .i64 a, .int .i64 b] 34))
  have RP : Hid (Row ((w.alloc (.cells #[.slice oa ss.length cap] 30)).alloc (.cells #[.int .i64 a, .int .i64 b] 34)) (w.heap.size + 1) 34 [.int .i64 a, .int .i64 b]) := Lib.hid (by
    have := Row.new (w.alloc (.cells #[.slice oa ss.length cap] 30)) [.int .i64 a, .int .i64 b] 34
    rw [World.size_alloc] at this
    exact this)
  have C := Lib.hid (specValid_any ss oa cap _ hf (hc.below hb0 (Nat.le_refl _)))
  have HB0 := Lib.hid hb0
  have HC := Lib.hid hc
  have HF := Lib.hid hf
  clear hf hc hb0
  go_enter Tryd.func49, Tryd.ntmps49
  go_wp2_with fail
  refine C.out.mono ?_
  rintro e w1 ⟨q, rfl, hv, hb⟩
  have HB := Lib.hid (HB0.out.trans (hb.mono HB0.out.size))
  have RG1 := Lib.hid (RG.out.below hb RG.out.lt)
  have RP1 := Lib.hid (RP.out.below hb RP.out.lt)
  have HV := Lib.hid hv
  have g1 := RG1.out.cell (i := 0) (by rfl)
  have p0 := RP1.out.cell (i := 0) (by rfl)
  have p1 := RP1.out.cell (i := 1) (by rfl)
  clear hb hv
  cases q
  · have HN : Hid (¬ itemHas ss a b) := Lib.hid (fun h => by have := HV.out.2 h.1; cases this)
    go_wp2
    go_ret2
    exact .inl ⟨HN.out, _, rfl, HB.out.alloc HB.out.size _⟩
  · have HVV := Lib.hid (HV.out.1 rfl)
    have C2 := Lib.hid (specHas_any ss HF.out oa cap a b _ (HC.out.below HB.out (Nat.le_refl _)))
    go_wp2_with fail
    refine C2.out.mono ?_
    rintro e w2 ⟨rfl, hb2⟩
    have HB2 := Lib.hid (HB.out.trans (hb2.mono HB.out.size))
    have RG2 := Lib.hid (RG1.out.below hb2 RG1.out.lt)
    have RP2 := Lib.hid (RP1.out.below hb2 RP1.out.lt)
    have g2 := RG2.out.cell (i := 0) (by rfl)
    have q0 := RP2.out.cell (i := 0) (by rfl)
    have q1 := RP2.out.cell (i := 1) (by rfl)
    clear hb2 g1 p0 p1
    have hcase : itemAtP ss a b = none ∨ ∃ x, itemAtP ss a b = some x := by cases itemAtP ss a b <;> simp
    rcases hcase with hx | ⟨x, hx⟩
    · have HN : Hid (¬ itemHas ss a b) := Lib.hid (fun h => by have := h.2; rw [hx] at this; cases this)
      rw [hx]
      clear hx
      simp only [Option.isSome_none]
      go_wp2
      go_ret2
      exact .inl ⟨HN.out, _, rfl, HB2.out.alloc HB2.out.size _⟩
    · obtain ⟨i, j, rfl, rfl, hq⟩ := item_placed hx
      have HM := Lib.hid (meanAt_of hq)
      have HH := Lib.hid (itemHas_of HVV.out hq)
      have C3 := Lib.hid (specResolve_any ss HVV.out HF.out oa cap hq _ (HC.out.below HB2.out (Nat.le_refl _)))
      rw [hx]
      clear hx hq
      simp only [Option.isSome_some]
      go_wp2_with fail
      refine C3.out.mono ?_
      rintro e w3 ⟨u, rfl, hu, hb3⟩
      have HB3 := Lib.hid (HB2.out.trans (hb3.mono HB2.out.size))
      have HU := Lib.hid (ownsRow_lower hu HB2.out.size)
      clear hb3 hu
      go_wp2
      go_ret2
      exact .inr ⟨HH.out, u, rfl, by rw [HM.out]; exact HU.out, HB3.out⟩
theorem meanAt_short {ss : List Sc} {a b : Int} (h : itemHas ss a b) : (meanAt ss a b).length ≤ 1000 := by
  obtain ⟨hva, hs⟩ := h
  obtain ⟨x, hx⟩ := Option.isSome_iff_exists.1 hs
  unfold meanAt
  rw [hx]
  have := meanIt_length hva (a.toNat, b.toNat, x)
  show (meanIt ss (a.toNat, b.toNat, x)).length ≤ 1000
  omega
theorem alone_neg {ss : List Sc} (hv : Valid ss) {p : Int × Int} {i j : Nat} {c : Sc} {y : It} (hp : p = ((i : Int), (j : Int))) (hc : ss[i]? = some c) (hy : c.items[j]? = some y) : aloneP ss [p] = y.scope ∧ (y.scope < 0 ↔ y.scope = -1) := by
  subst hp
  refine ⟨scopeAt_of hc hy, ?_⟩
  rcases scope_ok hv (placed_of hc hy) with h | ⟨m, h, _⟩ <;> dsimp only at h <;> omega
set_option maxRecDepth 100000 in
set_option maxHeartbeats 4000000 in
theorem specStateOf_any (ss : List Sc) (hf : FitsScopes ss) (oa : Option Addr) (cap : Nat) (a b : Int) (w : World) (hc : HoldsScopes w oa ss) :
    Calls Tryd.prog 53 #[.agg #[.slice oa ss.length cap], .agg #[.int .i64 a, .int .i64 b]] w (StGot ss a b w) := by
  have hb0 : Below w.heap.size w ((w.alloc (.cells #[.slice oa ss.length cap] 30)).alloc (.cells #[.int .i64 a, .int .i64 b] 34)) := ((Below.refl _ _).alloc (Nat.le_refl _) _).alloc (by simp) _
  have RG := Lib.hid ((Row.new w [.slice oa ss.length cap] 30).alloc (.cells #[.int .i64 a, .int .i64 b] 34))
  have RP : Hid (Row ((w.alloc (.cells #[.slice oa ss.length cap] 30)).alloc (.cells #[.int .i64 a, .int .i64 b] 34)) (w.heap.size + 1) 34 [.int .i64 a, .int .i64 b]) := Lib.hid (by
    have := Row.new (w.alloc (.cells #[.slice oa ss.length cap] 30)) [.int .i64 a, .int .i64 b] 34
    rw [World.size_alloc] at this
    exact this)
  have C := Lib.hid (specResolveItem_any ss hf oa cap a b _ (hc.below hb0 (Nat.le_refl _)))
  have HB0 := Lib.hid hb0
  have HC := Lib.hid hc
  have HF := Lib.hid hf
  clear hf hc hb0
  go_enter Tryd.func53, Tryd.ntmps53
  go_wp2_with fail
  refine C.out.mono ?_
  rintro e w1 (⟨hn, g, rfl, hb⟩ | ⟨hh, u, rfl, hu, hb⟩)
  · have HB := Lib.hid (HB0.out.trans (hb.mono HB0.out.size))
    have HN := Lib.hid hn
    clear hb hn
    go_wp2
    go_ret
    exact ⟨_, rfl, .inr ⟨HN.out, rfl⟩, HB.out⟩
  · obtain ⟨hv, his⟩ := hh
    obtain ⟨x, hx⟩ := Option.isSome_iff_exists.1 his
    obtain ⟨i, j, rfl, rfl, hq⟩ := item_placed hx
    rw [meanAt_of hq] at hu
    obtain ⟨ou, cu, rfl, harg⟩ := argPlaces_of_owns hu
    have HB := Lib.hid (HB0.out.trans (hb.mono HB0.out.size))
    have RG1 := Lib.hid (RG.out.below hb RG.out.lt)
    have RP1 := Lib.hid (RP.out.below hb RP.out.lt)
    have HQ := Lib.hid hq
    have HV := Lib.hid hv
    have HA := Lib.hid harg
    have HIP := Lib.hid (meanIt_isPlace hq)
    have HST : Hid (stateIt ss (i, j, x) = if (meanIt ss (i, j, x)).length = 0 then 2 else if 1 < (meanIt ss (i, j, x)).length then 3 else if x.kind = 3 ∧ aloneP ss (meanIt ss (i, j, x)) = -1 then 4 else 1) := Lib.hid rfl
    have HG : ∀ z, z = stateIt ss (i, j, x) → StVal ss (i : Int) (j : Int) z := fun z hz => .inl ⟨hv, i, j, x, rfl, rfl, hq, hz⟩
    have HGG := Lib.hid HG
    clear hb his hx hu harg hq hv HG
    generalize meanIt ss (i, j, x) = ml at *
    by_cases h0 : ml.length = 0
    · have HE : Hid (stateIt ss (i, j, x) = 2) := Lib.hid (by rw [HST.out, if_pos h0])
      have k0 : ((ml.length : Int) == 0) = true := by rw [h0]; rfl
      clear h0
      go_wp2
      go_ret
      exact ⟨_, rfl, HGG.out _ HE.out.symm, HB.out⟩
    · have k0 : ((ml.length : Int) == 0) = false := beq_eq_false_iff_ne.2 (by omega)
      by_cases h1 : 1 < ml.length
      · have HE : Hid (stateIt ss (i, j, x) = 3) := Lib.hid (by rw [HST.out, if_neg h0, if_pos h1])
        have k1 : (1 : Int) < (ml.length : Int) := by omega
        clear h0 h1
        go_wp2
        go_ret
        exact ⟨_, rfl, HGG.out _ HE.out.symm, HB.out⟩
      · have k1 : ¬ (1 : Int) < (ml.length : Int) := by omega
        have hone : ml.length = 1 := by omega
        obtain ⟨p, rfl⟩ := List.length_eq_one_iff.1 hone
        obtain ⟨c, hsc, hjx⟩ := placed_at HQ.out
        dsimp only at hsc hjx
        obtain ⟨i2, j2, c2, y, hpe, hc2, hy2⟩ := HIP.out p (List.mem_singleton.2 rfl)
        have hneg := alone_neg HV.out hpe hc2 hy2
        obtain ⟨b5, f5, rfl, hb5, q5⟩ := HA.out.at (by simp)
        obtain ⟨r0, r1⟩ := q5 0 p (by rfl)
        rw [Nat.zero_mul, Nat.add_zero] at r0 r1
        subst hpe
        dsimp only at r0 r1
        have g1 := cell_regrown (RG1.out.cell (i := 0) (by rfl))
        have p0 := cell_regrown (RP1.out.cell (i := 0) (by rfl))
        have p1 := cell_regrown (RP1.out.cell (i := 1) (by rfl))
        have e0 := cell_regrown r0
        have e1 := cell_regrown r1
        have HEND : ∀ dq osq, Below w.heap.size w (Sort.grow (redrawn w1 dq) osq) := fun dq osq => HB.out.trans ((below_regrown w1 dq osq).mono HB.out.size)
        have D1 : ∀ d os, Calls Tryd.prog 93 #[.agg #[.slice oa ss.length cap], .agg #[.int .i64 (i : Int), .int .i64 (j : Int)]] (Sort.grow (redrawn w1 d) os) fun e w'' => e = .returned (.agg #[.int .i64 x.kind, .string x.name, .int .i64 x.scope]) ∧ ∃ q : Regrown, w'' = Sort.grow (redrawn w1 q.d) q.os :=
          fun d os => Calls.regrown_of (specAt_any ss HF.out oa cap i j c x hsc hjx _ (HC.out.below (HEND d os) (Nat.le_refl _)))
        have D2 : ∀ d os, Calls Tryd.prog 93 #[.agg #[.slice oa ss.length cap], .agg #[.int .i64 (i2 : Int), .int .i64 (j2 : Int)]] (Sort.grow (redrawn w1 d) os) fun e w'' => e = .returned (.agg #[.int .i64 y.kind, .string y.name, .int .i64 y.scope]) ∧ ∃ q : Regrown, w'' = Sort.grow (redrawn w1 q.d) q.os :=
          fun d os => Calls.regrown_of (specAt_any ss HF.out oa cap i2 j2 c2 y hc2 hy2 _ (HC.out.below (HEND d os) (Nat.le_refl _)))
        have HENDH := Lib.hid HEND
        have k0' : ((([((i2 : Int), (j2 : Int))] : List (Int × Int)).length : Int) == 0) = false := by rfl
        clear HEND q5 hsc hjx hc2 hy2 h0 h1 r0 r1 hone
        by_cases hk : x.kind = 3
        · have hq3 : (x.kind == 3) = true := by simpa using hk
          by_cases ha : y.scope = -1
          · have HE : Hid (stateIt ss (i, j, x) = 4) := Lib.hid (by rw [HST.out, if_neg (by simp), if_neg (by simp), if_pos ⟨hk, by rw [hneg.1]; exact ha⟩])
            have ka : y.scope < 0 := by omega
            clear hk ha hneg
            go_wp2
            refine wp_region_quiet_below (by kernel_rfl) (by kernel_rfl) ?_
            repeat (first | go_big_quiet_step (with_reducible first | exact D1 _ _ | exact D2 _ _) | quiet_step (with_reducible first | exact D1 _ _ | exact D2 _ _))
            refine wpQuiet_nil ?_
            intro _ hw'
            obtain ⟨⟨dq, osq⟩, hw''⟩ := hw'
            subst hw''
            have HBE := Lib.hid (HENDH.out dq osq)
            go_wp2
            go_ret
            exact ⟨_, rfl, HGG.out _ HE.out.symm, HBE.out⟩
          · have HE : Hid (stateIt ss (i, j, x) = 1) := Lib.hid (by rw [HST.out, if_neg (by simp), if_neg (by simp), if_neg (fun h => ha (by rw [← hneg.1]; exact h.2))])
            have ka : ¬ y.scope < 0 := fun h => ha (hneg.2.1 h)
            clear hk ha hneg
            go_wp2
            refine wp_region_quiet_below (by kernel_rfl) (by kernel_rfl) ?_
            repeat (first | go_big_quiet_step (with_reducible first | exact D1 _ _ | exact D2 _ _) | quiet_step (with_reducible first | exact D1 _ _ | exact D2 _ _))
            refine wpQuiet_nil ?_
            intro _ hw'
            obtain ⟨⟨dq, osq⟩, hw''⟩ := hw'
            subst hw''
            have HBE := Lib.hid (HENDH.out dq osq)
            go_wp2
            go_ret
            exact ⟨_, rfl, HGG.out _ HE.out.symm, HBE.out⟩
        · have hq3 : (x.kind == 3) = false := by simpa using hk
          have HE : Hid (stateIt ss (i, j, x) = 1) := Lib.hid (by rw [HST.out, if_neg (by simp), if_neg (by simp), if_neg (fun h => hk h.1)])
          clear hk hneg D2
          go_wp2
          refine wp_region_quiet_below (by kernel_rfl) (by kernel_rfl) ?_
          repeat (first | go_big_quiet_step (exact D1 _ _) | quiet_step (exact D1 _ _))
          refine wpQuiet_nil ?_
          intro _ hw'
          obtain ⟨⟨dq, osq⟩, hw''⟩ := hw'
          subst hw''
          have HBE := Lib.hid (HENDH.out dq osq)
          go_wp2
          go_ret
          exact ⟨_, rfl, HGG.out _ HE.out.symm, HBE.out⟩
end Go.Proofs.YtadpgoiiopfnnaaDoor
namespace Go.Proofs.YtadpgoiiopfnnaaDoor
open Go Go.RowKit Go.Maps
theorem placed_weight : ∀ (i : Nat) (ss : List Sc), (placed i ss).length ≤ wScopes ss
  | _, [] => by simp [placed]
  | i, s :: r => by
    have ih := placed_weight (i + 1) r
    have h1 := wItems_eq s.items
    simp only [placed, List.length_append, List.length_map, List.length_zipIdx, wScopes]
    omega
/-- The places of all items. -/
def plsAll (l : List (Nat × Nat × It)) : List (Int × Int) := l.map fun q => ((q.1 : Int), (q.2.1 : Int))
theorem plsAll_snoc (l : List (Nat × Nat × It)) (q : Nat × Nat × It) : plsAll (l ++ [q]) = plsAll l ++ [((q.1 : Int), (q.2.1 : Int))] := by unfold plsAll; rw [List.map_append]; rfl
theorem plsAll_length (l : List (Nat × Nat × It)) : (plsAll l).length = l.length := by unfold plsAll; rw [List.length_map]
theorem plsAll_at {l : List (Nat × Nat × It)} {k : Nat} {q : Nat × Nat × It} (h : l[k]? = some q) : (plsAll l)[k]? = some ((q.1 : Int), (q.2.1 : Int)) := by unfold plsAll; rw [List.getElem?_map, h]; rfl
set_option maxRecDepth 100000 in
set_option maxHeartbeats 1600000 in
theorem l4Items_any (ss : List Sc) (hl : ss.length ≤ 1048576) (hm : ∀ s ∈ ss, s.items.length ≤ 1048576) (hN : (placed 0 ss).length ≤ 1048576) (oa : Option Addr) (cap : Nat) (w : World) (hc : HoldsScopes w oa ss) :
    Calls Tryd.prog 80 #[.agg #[.slice oa ss.length cap]] w (PlsGot (plsAll (placed 0 ss)) w) := by
  have hb0 := ((Below.refl w.heap.size w).alloc (Nat.le_refl _) (.cells #[.slice oa ss.length cap] 30)).alloc (by simp) (.cells #[] 34)
  have hR0 := (Row.new w [.slice oa ss.length cap] 30).alloc (.cells #[] 34)
  have hown0 : ((w.alloc (.cells #[.slice oa ss.length cap] 30)).alloc (.cells #[] 34)).ownsRow w.heap.size 34 2 (.slice (some ⟨w.heap.size + 1, 0, none⟩) 0 0) 0 [] := by
    have h0 := World.ownsRow_made (base := w.heap.size) (e := 34) (size := 2) (w.alloc (.cells #[.slice oa ss.length cap] 30)) #[] 0 (by simp) (by unfold maxLen; omega) rfl
    rw [World.size_alloc] at h0
    exact h0
  have HP0 : Hid (PlsAt w ((w.alloc (.cells #[.slice oa ss.length cap] 30)).alloc (.cells #[] 34)) oa cap ss.length (.slice (some ⟨w.heap.size + 1, 0, none⟩) 0 0) []) := Lib.hid ⟨hR0, hown0, hb0⟩
  have HC := Lib.hid hc
  have HM := Lib.hid hm
  have HN := Lib.hid hN
  have g00 := hR0.cell (i := 0) (by rfl)
  clear hc hm hb0 hR0 hown0 hN
  go_enter Tryd.func80, Tryd.ntmps80
  go_wp2
  go_loopw [3, 11] (fun v i wr => ∃ k : Nat, i = .int .i64 k ∧ k ≤ ss.length ∧ Hid (PlsAt w wr oa cap ss.length v (plsAll (uptoP ss k 0)))) (fun _ i _ => ss.length - (intOf i).toNat)
  case atStart => exact ⟨0, rfl, Nat.zero_le _, Lib.hid (by rw [uptoP_start]; exact HP0.out)⟩
  case round =>
    obtain ⟨k, rfl, hk, hP⟩ := hrel
    by_cases hlt : k < ss.length
    · obtain ⟨s, hs⟩ : ∃ s, ss[k]? = some s := ⟨_, List.getElem?_eq_getElem hlt⟩
      obtain ⟨bb, off, rfl, hbb, hcell⟩ := HC.out.at (by omega)
      obtain ⟨oi, ci, a0, a1, hci⟩ := hcell k s hs
      have hil := HM.out s (List.mem_of_getElem? hs)
      have b0 := (hP.out.below.cell (p := ⟨bb, off + k * 2, none⟩) hbb).trans a0
      have b1 := (hP.out.below.cell (p := ⟨bb, off + k * 2 + 1, none⟩) hbb).trans a1
      have HS := Lib.hid hs
      have hbx := (Below.refl wr.heap.size wr).alloc (Nat.le_refl _) (.cells #[.int .i64 s.parent, .slice oi s.items.length ci] 90)
      have HP1 := Lib.hid (hP.out.step hbx)
      have hwr := hP.out.below.size
      clear hs hcell hci a0 a1 hbx
      go_wp2
      go_loopw [3, 19] (fun v i wr => ∃ j : Nat, i = .int .i64 j ∧ j ≤ s.items.length ∧ Hid (PlsAt w wr (some ⟨bb, off, none⟩) cap ss.length v (plsAll (uptoP ss k j)))) (fun _ i _ => s.items.length - (intOf i).toNat)
      case atStart => exact ⟨0, rfl, Nat.zero_le _, HP1⟩
      case round =>
        obtain ⟨j, rfl, hj, hP2⟩ := hrel
        by_cases hlt2 : j < s.items.length
        · obtain ⟨x, hx⟩ : ∃ x, s.items[j]? = some x := ⟨_, List.getElem?_eq_getElem hlt2⟩
          have HNX := Lib.hid (uptoP_next HS.out hx)
          have hpl : (plsAll (uptoP ss k j)).length ≤ 1048576 := by rw [plsAll_length]; exact Nat.le_trans (uptoP_prefix (j := j) HS.out).length_le HN.out
          have HE : Hid (plsAll (uptoP ss k (j + 1)) = plsAll (uptoP ss k j) ++ [((k : Int), (j : Int))]) := Lib.hid (by rw [HNX.out, plsAll_snoc])
          generalize hpe : plsAll (uptoP ss k j) = pre at hpl
          have HP3 : Hid (PlsAt w _ (some ⟨bb, off, none⟩) cap ss.length _ pre) := Lib.hid (by have := hP2.out; rw [hpe] at this; exact this)
          rw [hpe] at HE
          have hrow3 := HP3.out.row
          obtain ⟨i0, hi0, hz0, hz1, hz2⟩ := info_parts infoPl
          have hbs3 := HP3.out.below.size
          clear hpe hx
          go_wp2_with (at_builtin; refine wpList_append_own _ rfl _ _ 46 rfl w.heap.size 34 i0 (.agg #[.int .i64 0, .int .i64 0]) 2 16 Tryd.underlying46 hi0 hz0 hz1 hz2 rfl (by decide) _ _ _ rfl (hrow3.alloc _) ⟨_, 0, none⟩ 1 1 [.int .i64 (k : Int), .int .i64 (j : Int)] rfl rfl ?c1 ?c2 ?c3 ?c4 ?c5 ?_)
          all_goals try (case c1 => exact cells_new2 _ _ _ _)
          all_goals try (case c2 => first | (exact ⟨rfl, rfl⟩) | (intro u hu; simp only [List.mem_cons, List.mem_nil_iff, or_false] at hu; rcases hu with rfl | rfl <;> rfl))
          all_goals try (case c3 => unfold maxLen; omega)
          all_goals try (case c4 => omega)
          all_goals try (case c5 => first | omega | (simp only [World.size_alloc]; omega) | (simp; omega))
          intro v' w' hown' hgrow _
          have HP4 : Hid (PlsAt w w' (some ⟨bb, off, none⟩) cap ss.length v' (plsAll (uptoP ss k (j + 1)))) := Lib.hid {
            box := (HP3.out.box.alloc (.cells #[.int .i64 (k : Int), .int .i64 (j : Int)] 34)).grown hgrow (ownsRow_ne2 HP3.out.box (by decide) HP3.out.row)
            row := by rw [HE.out, List.length_append, placeCells_snoc]; exact hown'
            below := HP3.out.below.trans (below_append2 HP3.out.row hgrow (Nat.le_refl w.heap.size) hbs3) }
          clear hown' hgrow hrow3
          go_wp2
          go_roundw
          case rel => exact ⟨j + 1, by go_num, by omega, HP4⟩
          case measure => simp only [intOf]; omega
        · obtain rfl : j = s.items.length := by omega
          have HP2 : Hid (PlsAt w _ (some ⟨bb, off, none⟩) cap ss.length _ (plsAll (uptoP ss (k + 1) 0))) := Lib.hid (by have := hP2.out; rw [uptoP_scope HS.out] at this; exact this)
          go_wp2
          go_roundw
          case rel => exact ⟨k + 1, by go_num, by omega, HP2⟩
          case measure => simp only [intOf]; omega
    · obtain rfl : k = ss.length := by omega
      have HE := Lib.hid (uptoP_all ss)
      go_wp2
      go_ret
      exact ⟨_, rfl, by have := hP.out.row; rw [HE.out] at this; exact this, hP.out.below⟩
/-- One place appended, and where the longer list lies. -/
theorem append_place_at {W : World} {base k : Nat} {v : Value} {xs : List Value} (hrow : W.ownsRow base 34 2 v k xs) (x y : Int) (hk : k < 1000000) (hbase : base ≤ W.heap.size) (ty : TypeId) :
    ∃ v' w', (Builtin.append_ #[46, 46] ty #[v, .slice (some ⟨W.heap.size, 0, none⟩) 1 1]).run Tryd.prog (W.alloc (.cells #[.int .i64 x, .int .i64 y] 34)) = .ok v' w' ∧ w'.ownsRow base 34 2 v' (k + 1) (xs ++ [.int .i64 x, .int .i64 y]) ∧ (W.alloc (.cells #[.int .i64 x, .int .i64 y] 34)).grownBy w' v.ownBlock ∧ (v'.ownBlock = v.ownBlock ∨ v'.ownBlock = some (W.heap.size + 1)) := by
  obtain ⟨i0, hi, hz0, hz1, hz2⟩ := info_parts infoPl
  obtain ⟨v', w', hrun, h2, h3, _, h5⟩ := run_append_own_at (P := Tryd.prog) (W.alloc (.cells #[.int .i64 x, .int .i64 y] 34)) base 46 ty 34 i0 (.agg #[.int .i64 0, .int .i64 0]) 2 16 Tryd.underlying46 hi hz0 hz1 hz2 rfl (by decide) v k xs (hrow.alloc _) ⟨W.heap.size, 0, none⟩ 1 1 [.int .i64 x, .int .i64 y] rfl (cells_new2 W _ _ _)
    (by intro u hu; simp only [List.mem_cons, List.mem_nil_iff, or_false] at hu; rcases hu with rfl | rfl <;> rfl) (by unfold maxLen; omega) (by omega) (by show base ≤ (W.alloc _).heap.size; simp; omega)
  exact ⟨v', w', hrun, h2, h3, by simpa using h5⟩
/-- At the head of a round over a list of places: the graph's box, the list in the making, the list that is gone through. -/
structure ItemsAt (w wr : World) (oa : Option Addr) (cap n b2 : Nat) (v tl : Value) (l all : List (Int × Int)) : Prop where
  box : Row wr w.heap.size 30 [.slice oa n cap]
  row : wr.ownsRow w.heap.size 34 2 v l.length (placeCells l)
  lst : wr.ownsRow b2 34 2 tl all.length (placeCells all)
  far : tl = .slice none 0 0 ∨ tl.ownBlock ≠ v.ownBlock
  below : Below w.heap.size w wr
theorem ItemsAt.step {w wr w' : World} {oa : Option Addr} {cap n b2 : Nat} {v tl : Value} {l all : List (Int × Int)} (h : ItemsAt w wr oa cap n b2 v tl l all) (hb : Below wr.heap.size wr w') : ItemsAt w w' oa cap n b2 v tl l all where
  box := h.box.below hb h.box.lt
  row := ownsRow_below h.row hb
  lst := ownsRow_below h.lst hb
  far := h.far
  below := h.below.trans (hb.mono h.below.size)
theorem ownsRow_lt {w : World} {B n size g : Nat} {e : TypeId} {u : Value} {xs : List Value} (h : w.ownsRow B e size u n xs) (hg : u.ownBlock = some g) : g < w.heap.size := (h.lt g hg).2
theorem ItemsAt.snoc {w W w' : World} {oa : Option Addr} {cap n b2 : Nat} {v v' tl : Value} {l all : List (Int × Int)} {x y : Int} (h : ItemsAt w W oa cap n b2 v tl l all)
    (hown : w'.ownsRow w.heap.size 34 2 v' (l.length + 1) (placeCells l ++ [.int .i64 x, .int .i64 y])) (hg : (W.alloc (.cells #[.int .i64 x, .int .i64 y] 34)).grownBy w' v.ownBlock) (hb : v'.ownBlock = v.ownBlock ∨ v'.ownBlock = some (W.heap.size + 1)) :
    ItemsAt w w' oa cap n b2 v' tl (l ++ [(x, y)]) all where
  box := (h.box.alloc _).grown hg (ownsRow_ne2 h.box (by decide) h.row)
  row := by rw [List.length_append, placeCells_snoc]; exact hown
  lst := (h.lst.alloc _).kept hg (h.far.imp (fun e => by rw [e]; rfl) id)
  far := by
    rcases hb with hb | hb
    · rw [hb]; exact h.far
    · rw [hb]
      rcases h.far with h1 | _
      · exact .inl h1
      · exact .inr fun e => by have := ownsRow_lt h.lst e; omega
  below := h.below.trans (below_append2 h.row hg (Nat.le_refl _) h.below.size)
theorem stVal_is {ss : List Sc} (hv : Valid ss) {i j : Nat} {x : It} (hq : (i, j, x) ∈ placed 0 ss) {z : Int} (h : StVal ss (i : Int) (j : Int) z) : z = stateIt ss (i, j, x) := h.same (.inl ⟨hv, i, j, x, rfl, rfl, hq, rfl⟩)
end Go.Proofs.YtadpgoiiopfnnaaDoor
namespace Go.Proofs.YtadpgoiiopfnnaaDoor
open Go Go.RowKit
/-- All letters in order; the k-th one as a text. -/
def lettersB : ByteArray := ⟨#[97, 98, 99, 100, 101, 102, 103, 104, 105, 106, 107, 108, 109, 110, 111, 112, 113, 114, 115, 116, 117, 118, 119, 120, 121, 122]⟩
def letterB (k : Nat) : ByteArray := ⟨#[UInt8.ofNat (97 + k)]⟩
theorem letters_size : lettersB.size = 26 := rfl
theorem letterB_size (k : Nat) : (letterB k).size = 1 := rfl
theorem below26 {p : Nat → Prop} (h : ∀ k : Fin 26, p k.1) {k : Nat} (hk : k < 26) : p k := h ⟨k, hk⟩
theorem letters_cut {k : Nat} (hk : k < 26) : lettersB.extract k (k + 1) = letterB k :=
  below26 (p := fun k => lettersB.extract k (k + 1) = letterB k) (by decide +kernel) hk
theorem letters_at {k : Nat} (hk : k < 26) : ∃ h : k < lettersB.size, (lettersB[k]'h).toNat = 97 + k := by
  refine ⟨hk, ?_⟩
  have h : ∀ k : Fin 26, (lettersB.get! k.1).toNat = 97 + k.1 := by decide +kernel
  have h1 := h ⟨k, hk⟩
  rw [← h1]
  have e : lettersB[k]'hk = lettersB.get! k := by
    show _ = lettersB.data[k]!
    rw [getElem!_pos lettersB.data k hk]
    rfl
  rw [e]
theorem encode_letter {k : Nat} (hk : k < 26) : Utf8.encode ((97 + k : Nat) : Int) = letterB k :=
  below26 (p := fun k => Utf8.encode ((97 + k : Nat) : Int) = letterB k) (by decide +kernel) hk
theorem nameB_letter {k : Nat} (hk : k < 26) : nameB (letterB k) = true :=
  below26 (p := fun k => nameB (letterB k) = true) (by decide +kernel) hk
/-- How many declarations are found for the k-th letter. -/
def hits (ss : List Sc) (s k : Nat) : Nat := (lookP ss s (letterB k)).places.length
theorem hits_le {ss : List Sc} (hv : Valid ss) (s k : Nat) : hits ss s k ≤ 25 := lookF_length hv _ _
/-- Those of the first k letters whose number of declarations fits. -/
def pickP (ss : List Sc) (s : Nat) (f : Nat → Bool) : Nat → ByteArray
  | 0 => ⟨#[]⟩
  | k + 1 => if f (hits ss s k) = true then pickP ss s f k ++ letterB k else pickP ss s f k
theorem pickP_yes {ss : List Sc} {s k : Nat} {f : Nat → Bool} (h : f (hits ss s k) = true) : pickP ss s f (k + 1) = pickP ss s f k ++ letterB k := by
  show (if _ then _ else _) = _
  rw [if_pos h]
theorem pickP_no {ss : List Sc} {s k : Nat} {f : Nat → Bool} (h : f (hits ss s k) = false) : pickP ss s f (k + 1) = pickP ss s f k := by
  show (if _ then _ else _) = _
  rw [if_neg (by rw [h]; decide)]
theorem pickP_size (ss : List Sc) (s : Nat) (f : Nat → Bool) : ∀ k : Nat, (pickP ss s f k).size ≤ k
  | 0 => Nat.le_refl _
  | k + 1 => by
    have ih := pickP_size ss s f k
    cases h : f (hits ss s k) with
    | true => rw [pickP_yes h, ByteArray.size_append, letterB_size]; omega
    | false => rw [pickP_no h]; omega
theorem pickP_congr {ss : List Sc} (hv : Valid ss) (s : Nat) {f g : Nat → Bool} (h : ∀ n, n ≤ 25 → f n = g n) : ∀ k : Nat, pickP ss s f k = pickP ss s g k
  | 0 => rfl
  | k + 1 => by
    show (if _ then _ else _) = (if _ then _ else _)
    rw [h _ (hits_le hv s k), pickP_congr hv s h k]
/-- What the three functions answer. -/
def pickR (ss : List Sc) (f : Nat → Bool) (n : Int) (str : ByteArray) (ok : Bool) : Prop := (¬ HasScope ss n ∧ str = ⟨#[]⟩ ∧ ok = false) ∨ (HasScope ss n ∧ str = pickP ss n.toNat f 26 ∧ ok = true)
theorem pickR.same {ss : List Sc} {f : Nat → Bool} {n : Int} {a b : ByteArray} {ok ok' : Bool} (h : pickR ss f n a ok) (k : pickR ss f n b ok') : a = b ∧ ok = ok' := by
  rcases h with ⟨h1, rfl, rfl⟩ | ⟨h1, rfl, rfl⟩ <;> rcases k with ⟨k1, rfl, rfl⟩ | ⟨k1, rfl, rfl⟩
  · exact ⟨rfl, rfl⟩
  · exact absurd k1 h1
  · exact absurd h1 k1
  · exact ⟨rfl, rfl⟩
def PickGot (ss : List Sc) (f : Nat → Bool) (n : Int) (w : World) (e : Ending) (w' : World) : Prop := ∃ str ok, e = .returned (.tuple #[.string str, .bool ok]) ∧ pickR ss f n str ok ∧ Below w.heap.size w w'
/-- What is hidden where a declaration stands. -/
def hidesIt (ss : List Sc) (s : Nat) (nm : ByteArray) : List (Int × Int) :=
  if (fromP ss (impP ss s) nm).isEmpty = true then (match parP ss s with
    | none => []
    | some p => (lookP ss p nm).places) else fromP ss (impP ss s) nm
theorem hidesIt_from {ss : List Sc} {s : Nat} {nm : ByteArray} (h : (fromP ss (impP ss s) nm).isEmpty = false) : hidesIt ss s nm = fromP ss (impP ss s) nm := by unfold hidesIt; rw [h]; rfl
theorem hidesIt_none {ss : List Sc} {s : Nat} {nm : ByteArray} (h : (fromP ss (impP ss s) nm).isEmpty = true) (hp : parP ss s = none) : hidesIt ss s nm = [] := by unfold hidesIt; rw [h, hp]; rfl
theorem hidesIt_par {ss : List Sc} {s p : Nat} {nm : ByteArray} (h : (fromP ss (impP ss s) nm).isEmpty = true) (hp : parP ss s = some p) : hidesIt ss s nm = (lookP ss p nm).places := by unfold hidesIt; rw [h, hp]; rfl
theorem hidesIt_length {ss : List Sc} (hv : Valid ss) (s : Nat) (nm : ByteArray) : (hidesIt ss s nm).length ≤ 25 := by
  unfold hidesIt
  split
  · split
    · simp
    · exact lookF_length hv _ _
  · have h1 := fromP_length hv nm (impP ss s)
    have h2 := impP_length hv s
    omega
/-- Is a declaration there? -/
def hidesAt (ss : List Sc) (a b : Int) : List (Int × Int) := match itemAtP ss a b with
  | some x => hidesIt ss a.toNat x.name
  | none => []
end Go.Proofs.YtadpgoiiopfnnaaDoor
namespace Go.Proofs.YtadpgoiiopfnnaaDoor
open Go Go.RowKit
def plOf (q : Nat × Nat × It) : Int × Int := ((q.1 : Int), (q.2.1 : Int))
/-- The places of those that pass a test. -/
def filtL (f : Nat × Nat × It → Bool) (l : List (Nat × Nat × It)) : List (Int × Int) := (l.filter f).map plOf
theorem filtL_snoc (f : Nat × Nat × It → Bool) (l : List (Nat × Nat × It)) (q : Nat × Nat × It) : filtL f (l ++ [q]) = filtL f l ++ if f q = true then [plOf q] else [] := by
  unfold filtL
  rw [List.filter_append, List.map_append]
  congr 1
  cases h : f q <;> simp [h]
theorem filtL_length (f : Nat × Nat × It → Bool) (l : List (Nat × Nat × It)) : (filtL f l).length ≤ l.length := by
  unfold filtL
  rw [List.length_map]
  exact List.length_filter_le _ _
theorem filtL_decls {f : Nat × Nat × It → Bool} (h : ∀ q, f q = true → q.2.2.kind = 1) (ss : List Sc) : filtL f (declsP ss) = filtL f (placed 0 ss) := by
  unfold filtL declsP
  rw [List.filter_filter]
  congr 1
  apply List.filter_congr
  intro q _
  cases hq : f q
  · simp
  · simp [h q hq]
/-- Is a declaration found by its name from a scope? -/
def foundB (ss : List Sc) (s : Nat) (q : Nat × Nat × It) : Bool := decide (plOf q ∈ (lookP ss s q.2.2.name).places)
def seesB (ss : List Sc) (s : Nat) (q : Nat × Nat × It) : Bool := q.2.2.kind == 1 && foundB ss s q
def hidB (ss : List Sc) (s : Nat) (q : Nat × Nat × It) : Bool := q.2.2.kind == 1 && (decide (q.1 ∈ chainP ss s) && !foundB ss s q)
theorem sees_kind {ss : List Sc} {s : Nat} : ∀ q, seesB ss s q = true → q.2.2.kind = 1 := fun q h => by
  unfold seesB at h
  simp only [Bool.and_eq_true, beq_iff_eq] at h
  exact h.1
theorem hid_kind {ss : List Sc} {s : Nat} : ∀ q, hidB ss s q = true → q.2.2.kind = 1 := fun q h => by
  unfold hidB at h
  simp only [Bool.and_eq_true, beq_iff_eq] at h
  exact h.1
theorem decl_kind {ss : List Sc} {q : Nat × Nat × It} (h : q ∈ declsP ss) : q ∈ placed 0 ss ∧ q.2.2.kind = 1 := by
  unfold declsP at h
  rw [List.mem_filter, beq_iff_eq] at h
  exact h
theorem declsP_map (ss : List Sc) : plsP ss 1 = (declsP ss).map plOf := rfl
end Go.Proofs.YtadpgoiiopfnnaaDoor
namespace Go.Proofs.YtadpgoiiopfnnaaDoor
open Go Go.RowKit
set_option maxRecDepth 100000 in
set_option maxHeartbeats 1600000 in
theorem l5In_any (ps : List (Int × Int)) (oa : Option Addr) (cap : Nat) (a b : Int) (w : World) (hn : ps.length ≤ 1000000) (ha : ArgPlaces w oa ps) :
    Calls Tryd.prog 146 #[.slice oa ps.length cap, .agg #[.int .i64 a, .int .i64 b]] w fun e w' => e = .returned (.bool (decide ((a, b) ∈ ps))) ∧ Below w.heap.size w w' := by
  have hb0 := (Below.refl w.heap.size w).alloc (Nat.le_refl _) (.cells #[.int .i64 a, .int .i64 b] 34)
  have RP := Lib.hid (Row.new w [.int .i64 a, .int .i64 b] 34)
  have HB0 := Lib.hid hb0
  have HA := Lib.hid ha
  clear hb0 ha
  go_enter Tryd.func146, Tryd.ntmps146
  go_wp2
  go_loopw [9] (fun i wr => ∃ k : Nat, i = .int .i64 k ∧ k ≤ ps.length ∧ Hid ((a, b) ∉ ps.take k) ∧ Hid (Below w.heap.size w wr ∧ Row wr w.heap.size 34 [.int .i64 a, .int .i64 b])) (fun i _ => ps.length - (intOf i).toNat)
  case atStart => exact ⟨0, rfl, Nat.zero_le _, Lib.hid (by simp), Lib.hid ⟨HB0.out, RP.out⟩⟩
  case round =>
    obtain ⟨k, rfl, hk, HN, HW⟩ := hrel
    by_cases hlt : k < ps.length
    · obtain ⟨p, hp⟩ : ∃ p, ps[k]? = some p := ⟨_, List.getElem?_eq_getElem hlt⟩
      obtain ⟨c, d⟩ := p
      obtain ⟨b1, f1, rfl, hb1, q1⟩ := (HA.out.below HW.out.1).at (by omega)
      obtain ⟨c0, c1⟩ := q1 k _ hp
      have HM := Lib.hid hp
      have hbP := (Below.refl wr.heap.size wr).alloc (Nat.le_refl _) (.cells #[.int .i64 c, .int .i64 d] 34)
      have HW2 := Lib.hid (And.intro (HW.out.1.trans (hbP.mono HW.out.1.size)) (HW.out.2.below hbP HW.out.2.lt))
      have r0 := HW2.out.2.cell (i := 0) (v := .int .i64 a) (by rfl)
      have r1 := HW2.out.2.cell (i := 1) (v := .int .i64 b) (by rfl)
      dsimp only at c0 c1
      have HSN : Hid ((a, b) ≠ (c, d) → (a, b) ∉ ps.take (k + 1)) := Lib.hid (by
        intro h
        rw [List.take_add_one, hp]
        simp only [Option.toList_some, List.mem_append, List.mem_singleton, not_or]
        exact ⟨HN.out, h⟩)
      clear hp hbP q1 hb1
      by_cases h1 : c = a
      · subst h1
        by_cases h2 : d = b
        · subst h2
          have HD : Hid (decide ((c, d) ∈ ps) = true) := Lib.hid (decide_eq_true (List.mem_of_getElem? HM.out))
          go_wp2
          go_ret
          exact ⟨by rw [HD.out]; rfl, HW2.out.1⟩
        · have HNX := Lib.hid (HSN.out (fun e => h2 (Prod.mk.inj e).2.symm))
          go_wp2
          go_roundw
          case rel => exact ⟨k + 1, by go_num, by omega, HNX, HW2⟩
          case measure => simp only [intOf]; omega
      · have HNX := Lib.hid (HSN.out (fun e => h1 (Prod.mk.inj e).1.symm))
        go_wp2
        go_roundw
        case rel => exact ⟨k + 1, by go_num, by omega, HNX, HW2⟩
        case measure => simp only [intOf]; omega
    · obtain rfl : k = ps.length := by omega
      have HD : Hid (decide ((a, b) ∈ ps) = false) := Lib.hid (decide_eq_false (by have := HN.out; rwa [List.take_length] at this))
      go_wp2
      go_ret
      exact ⟨by rw [HD.out]; rfl, HW.out.1⟩
end Go.Proofs.YtadpgoiiopfnnaaDoor
namespace Go.Proofs.YtadpgoiiopfnnaaDoor
open Go Go.RowKit
def seenOk (ss : List Sc) (n : Int) : Prop := HasScope ss n
theorem filtL_short {ss : List Sc} (hv : Valid ss) (f : Nat × Nat × It → Bool) : (filtL f (placed 0 ss)).length ≤ 30 := by
  have h1 := filtL_length f (placed 0 ss)
  have h2 := placed_bound 0 ss 6 5 hv.count.2 hv.five
  omega
theorem decls_short {ss : List Sc} (hv : Valid ss) : (declsP ss).length ≤ 30 := by
  have h1 := List.length_filter_le (fun q : Nat × Nat × It => q.2.2.kind == 1) (placed 0 ss)
  have h2 := placed_bound 0 ss 6 5 hv.count.2 hv.five
  unfold declsP
  omega
theorem owns_block2 {w : World} {base n size b off len cap : Nat} {e : TypeId} {xs : List Value} (h : w.ownsRow base e size (.slice (some ⟨b, off, none⟩) len cap) n xs) : base ≤ b := by
  obtain ⟨_, h2 | ⟨g, c, cur, hv, hB, _⟩⟩ := h
  · have := h2.1
    simp at this
  · simp only [Value.slice.injEq, Option.some.injEq, Addr.mk.injEq] at hv
    omega
theorem owns_lt2 {w : World} {base n size b off len cap : Nat} {e : TypeId} {xs : List Value} (h : w.ownsRow base e size (.slice (some ⟨b, off, none⟩) len cap) n xs) : b < w.heap.size := by
  obtain ⟨_, h2 | ⟨g, c, cur, hv, hB, hh, _⟩⟩ := h
  · have := h2.1
    simp at this
  · simp only [Value.slice.injEq, Option.some.injEq, Addr.mk.injEq] at hv
    have := (Array.getElem?_eq_some_iff.1 hh).1
    omega
/-- One place appended, and where the row then lies. -/
theorem append_placeW {W : World} {base k : Nat} {v : Value} {xs : List Value} (hrow : W.ownsRow base 34 2 v k xs) (x y : Int) (hk : k < 1000000) (hbase : base ≤ W.heap.size) (ty : TypeId) :
    ∃ v' w', (Builtin.append_ #[46, 46] ty #[v, .slice (some ⟨W.heap.size, 0, none⟩) 1 1]).run Tryd.prog (W.alloc (.cells #[.int .i64 x, .int .i64 y] 34)) = .ok v' w' ∧ w'.ownsRow base 34 2 v' (k + 1) (xs ++ [.int .i64 x, .int .i64 y]) ∧ (W.alloc (.cells #[.int .i64 x, .int .i64 y] 34)).grownBy w' v.ownBlock ∧ (v'.ownBlock = v.ownBlock ∨ v'.ownBlock = some (W.heap.size + 1)) := by
  obtain ⟨i0, hi, hz0, hz1, hz2⟩ := info_parts infoPl
  obtain ⟨v', w', hrun, h2, h3, _, h5⟩ := run_append_own_at (P := Tryd.prog) (W.alloc (.cells #[.int .i64 x, .int .i64 y] 34)) base 46 ty 34 i0 (.agg #[.int .i64 0, .int .i64 0]) 2 16 Tryd.underlying46 hi hz0 hz1 hz2 rfl (by decide) v k xs (hrow.alloc _) ⟨W.heap.size, 0, none⟩ 1 1 [.int .i64 x, .int .i64 y] rfl (cells_new2 W _ _ _)
    (by intro u hu; simp only [List.mem_cons, List.mem_nil_iff, or_false] at hu; rcases hu with rfl | rfl <;> rfl) (by unfold maxLen; omega) (by omega) (by show base ≤ (W.alloc _).heap.size; simp; omega)
  rw [World.size_alloc] at h5
  exact ⟨v', w', hrun, h2, h3, h5⟩
theorem ArgPlaces.grown {W W' : World} {oa : Option Addr} {l : List (Int × Int)} {row : Option Nat} (h : ArgPlaces W oa l) (hg : W.grownBy W' row) (hne : ∀ g, row = some g → ∀ b off, oa = some ⟨b, off, none⟩ → g ≠ b) : ArgPlaces W' oa l := by
  rcases h with h | ⟨b, off, rfl, hlt, hp⟩
  · exact .inl h
  · have hbk := hg.block b hlt (fun e => hne b e.symm b off rfl rfl)
    refine .inr ⟨b, off, rfl, Nat.lt_of_lt_of_le hlt hg.size, fun i p hi => ?_⟩
    obtain ⟨c0, c1⟩ := hp i p hi
    exact ⟨(World.cell?_of_block (a := ⟨b, off + i * 2, none⟩) hbk).trans c0, (World.cell?_of_block (a := ⟨b, off + i * 2 + 1, none⟩) hbk).trans c1⟩
/-- A list that lies apart from a row of one's own. -/
structure Aside (W : World) (v : Value) (ol : Option Addr) (l : List (Int × Int)) : Prop where
  args : ArgPlaces W ol l
  ne : ∀ g, v.ownBlock = some g → ∀ b off, ol = some ⟨b, off, none⟩ → g ≠ b
  lt : ∀ b off, ol = some ⟨b, off, none⟩ → b < W.heap.size
theorem Aside.below {W W' : World} {v : Value} {ol : Option Addr} {l : List (Int × Int)} (h : Aside W v ol l) (hb : Below W.heap.size W W') : Aside W' v ol l :=
  ⟨h.args.below hb, h.ne, fun b off e => Nat.lt_of_lt_of_le (h.lt b off e) hb.size⟩
theorem Aside.grown {W W' : World} {v v' : Value} {ol : Option Addr} {l : List (Int × Int)} {x y : Int} (h : Aside W v ol l) (hg : (W.alloc (.cells #[.int .i64 x, .int .i64 y] 34)).grownBy W' v.ownBlock) (hw : v'.ownBlock = v.ownBlock ∨ v'.ownBlock = some (W.heap.size + 1)) : Aside W' v' ol l := by
  have h1 := h.below ((Below.refl _ _).alloc (Nat.le_refl _) (.cells #[.int .i64 x, .int .i64 y] 34))
  refine ⟨h1.args.grown hg h1.ne, fun g hgo b off e => ?_, fun b off e => Nat.lt_of_lt_of_le (h1.lt b off e) hg.size⟩
  rcases hw with hw | hw
  · exact h.ne g (hw ▸ hgo) b off e
  · have := h.lt b off e
    rw [hw] at hgo
    simp only [Option.some.injEq] at hgo
    omega
end Go.Proofs.YtadpgoiiopfnnaaDoor
namespace Go.Proofs.YtadpgoiiopfnnaaDoor
open Go Go.RowKit
/-- The index of an item behind a removal, and its place. -/
def aftN (a b i j : Nat) : Nat := if i = a ∧ b < j then j - 1 else j
def aftI (a b : Int) (p : Int × Int) : Int × Int := if p.1 = a ∧ b < p.2 then (p.1, p.2 - 1) else p
theorem aftI_nat (a b i j : Nat) : aftI (a : Int) (b : Int) ((i : Int), (j : Int)) = ((i : Int), (aftN a b i j : Int)) := by
  unfold aftI aftN
  by_cases h : i = a ∧ b < j
  · rw [if_pos ⟨by have := h.1; dsimp only; omega, by have := h.2; dsimp only; omega⟩, if_pos h]
    dsimp only
    rw [show ((j : Int) - 1) = ((j - 1 : Nat) : Int) by omega]
  · rw [if_neg (fun hh => h ⟨by have := hh.1; dsimp only at this; omega, by have := hh.2; dsimp only at this; omega⟩), if_neg h]
/-- Every other item is there. -/
theorem placed_rmv {ss : List Sc} {a b i j : Nat} {x : It} (h : (i, j, x) ∈ placed 0 ss) (hne : ¬ (i = a ∧ j = b)) : (i, aftN a b i j, x) ∈ placed 0 (rmvP ss a b) := by
  obtain ⟨s, h1, h2⟩ := placed_at h
  dsimp only at h1 h2
  by_cases hi : i = a
  · subst hi
    refine placed_of (rmvP_same h1) ?_
    unfold rmvSc aftN
    dsimp only
    rw [List.getElem?_eraseIdx]
    by_cases hb : b < j
    · have e : (if i = i ∧ b < j then j - 1 else j) = j - 1 := if_pos ⟨rfl, hb⟩
      rw [e, if_neg (by omega), show j - 1 + 1 = j by omega]
      exact h2
    · have e : (if i = i ∧ b < j then j - 1 else j) = j := if_neg (fun h => hb h.2)
      have hj : j ≠ b := fun e => hne ⟨rfl, e⟩
      rw [e, if_pos (by omega)]
      exact h2
  · refine placed_of (s := s) ?_ ?_
    · rw [rmvP_other hi]; exact h1
    · unfold aftN
      rw [if_neg (fun h => hi h.1)]
      exact h2
/-- Whether an item means the same when the item b of the scope a is removed. -/
def sameB (ss : List Sc) (a b : Nat) (q : Nat × Nat × It) : Bool :=
  !decide (((a : Int), (b : Int)) ∈ meanIt ss q) && decide ((meanIt ss q).map (aftI (a : Int) (b : Int)) = meanIt (rmvP ss a b) (q.1, aftN a b q.1 q.2.1, q.2.2))
def chgB (ss : List Sc) (a b : Nat) (q : Nat × Nat × It) : Bool := !(decide (q.1 = a ∧ q.2.1 = b)) && !sameB ss a b q
/-- The places of the items that mean something else then. -/
def chgP (ss : List Sc) (a b : Nat) : List (Int × Int) := filtL (chgB ss a b) (placed 0 ss)
end Go.Proofs.YtadpgoiiopfnnaaDoor
namespace Go.Proofs.YtadpgoiiopfnnaaDoor
open Go Go.RowKit
def aftB (a b c d : Int) : Int := if a = c ∧ d < b then b - 1 else b
/-- Where a place stands behind a removal. -/
def paV (a b c d : Int) : Int × Int × Bool := if a = c ∧ b = d then (0, 0, false) else (a, aftB a b c d, true)
def PaGot (a b c d : Int) (w : World) (e : Ending) (w' : World) : Prop := ∃ x y ok, e = .returned (.tuple #[.agg #[.int .i64 x, .int .i64 y], .bool ok]) ∧ (x, y, ok) = paV a b c d ∧ Below w.heap.size w w'
set_option maxRecDepth 100000 in
theorem l6After_any (a b c d : Int) (hb : -9223372036854775808 ≤ b ∧ b ≤ 9223372036854775807) (hd : -9223372036854775808 ≤ d ∧ d ≤ 9223372036854775807) (w : World) :
    Calls Tryd.prog 81 #[.agg #[.int .i64 a, .int .i64 b], .agg #[.int .i64 c, .int .i64 d]] w fun e w' => e = .returned (.agg #[.int .i64 a, .int .i64 (aftB a b c d)]) ∧ Below w.heap.size w w' := by
  obtain ⟨hb1, hb2⟩ := hb
  obtain ⟨hd1, hd2⟩ := hd
  by_cases h1 : a = c
  · subst h1
    by_cases h3 : d < b
    · have H := Lib.hid h3
      go_enter Tryd.func81, Tryd.ntmps81
      go_wp2
      refine bodyPost_ret (v := .agg #[.int .i64 a, .int .i64 (b - 1)]) (by simp [results, Tryd.results81, go_sem]) rfl ⟨by have h := H.out; simp [aftB]; try omega, ?_⟩
      repeat (first | exact Below.refl _ _ | apply Below.drew | refine Below.alloc ?_ (by simp <;> omega) _ | refine Below.setCell ?_ (by simp <;> omega) _)
    · have H := Lib.hid h3
      go_enter Tryd.func81, Tryd.ntmps81
      go_wp2
      refine bodyPost_ret (v := .agg #[.int .i64 a, .int .i64 b]) (by simp [results, Tryd.results81, go_sem]) rfl ⟨by have h := H.out; simp [aftB]; try omega, ?_⟩
      repeat (first | exact Below.refl _ _ | apply Below.drew | refine Below.alloc ?_ (by simp <;> omega) _ | refine Below.setCell ?_ (by simp <;> omega) _)
  · have e1 : (a == c) = false := by simpa using h1
    have H := Lib.hid h1
    clear h1
    go_enter Tryd.func81, Tryd.ntmps81
    go_wp2
    refine bodyPost_ret (v := .agg #[.int .i64 a, .int .i64 b]) (by simp [results, Tryd.results81, go_sem]) rfl ⟨by have h := H.out; simp [aftB]; try omega, ?_⟩
    repeat (first | exact Below.refl _ _ | apply Below.drew | refine Below.alloc ?_ (by simp <;> omega) _ | refine Below.setCell ?_ (by simp <;> omega) _)
set_option maxRecDepth 100000 in
theorem implPlaceAfter_any (a b c d : Int) (hb : -9223372036854775808 ≤ b ∧ b ≤ 9223372036854775807) (hd : -9223372036854775808 ≤ d ∧ d ≤ 9223372036854775807) (w : World) :
    Calls Tryd.prog 77 #[.agg #[.int .i64 a, .int .i64 b], .agg #[.int .i64 c, .int .i64 d]] w (PaGot a b c d w) := by
  obtain ⟨hb1, hb2⟩ := hb
  obtain ⟨hd1, hd2⟩ := hd
  by_cases h1 : a = c
  · subst h1
    by_cases h2 : b = d
    · subst h2
      go_enter Tryd.func77, Tryd.ntmps77
      go_wp2
      refine bodyPost_ret (v := .tuple #[.agg #[.int .i64 0, .int .i64 0], .bool false]) (by simp [results, Tryd.results77, go_sem]) rfl ⟨0, 0, false, rfl, by simp [paV], ?_⟩
      repeat (first | exact Below.refl _ _ | apply Below.drew | refine Below.alloc ?_ (by simp <;> omega) _ | refine Below.setCell ?_ (by simp <;> omega) _)
    · have e2 : (b == d) = false := by simpa using h2
      by_cases h3 : d < b
      · have H := Lib.hid (And.intro h2 h3)
        clear h2
        go_enter Tryd.func77, Tryd.ntmps77
        go_wp2
        refine bodyPost_ret (v := .tuple #[.agg #[.int .i64 a, .int .i64 (b - 1)], .bool true]) (by simp [results, Tryd.results77, go_sem]) rfl ⟨a, b - 1, true, rfl, by simp [paV, aftB, H.out.1, H.out.2], ?_⟩
        repeat (first | exact Below.refl _ _ | apply Below.drew | refine Below.alloc ?_ (by simp <;> omega) _ | refine Below.setCell ?_ (by simp <;> omega) _)
      · have H := Lib.hid (And.intro h2 h3)
        clear h2
        go_enter Tryd.func77, Tryd.ntmps77
        go_wp2
        refine bodyPost_ret (v := .tuple #[.agg #[.int .i64 a, .int .i64 b], .bool true]) (by simp [results, Tryd.results77, go_sem]) rfl ⟨a, b, true, rfl, by have h := H.out.2; simp [paV, aftB, H.out.1]; try omega, ?_⟩
        repeat (first | exact Below.refl _ _ | apply Below.drew | refine Below.alloc ?_ (by simp <;> omega) _ | refine Below.setCell ?_ (by simp <;> omega) _)
  · have e1 : (a == c) = false := by simpa using h1
    have H := Lib.hid h1
    clear h1
    go_enter Tryd.func77, Tryd.ntmps77
    go_wp2
    refine bodyPost_ret (v := .tuple #[.agg #[.int .i64 a, .int .i64 b], .bool true]) (by simp [results, Tryd.results77, go_sem]) rfl ⟨a, b, true, rfl, by simp [paV, aftB, H.out], ?_⟩
    repeat (first | exact Below.refl _ _ | apply Below.drew | refine Below.alloc ?_ (by simp <;> omega) _ | refine Below.setCell ?_ (by simp <;> omega) _)
end Go.Proofs.YtadpgoiiopfnnaaDoor
namespace Go.Proofs.YtadpgoiiopfnnaaDoor
open Go Go.RowKit
/-- All items from before are there. -/
theorem placed_add {ss : List Sc} {a i j : Nat} {x y : It} (h : (i, j, y) ∈ placed 0 ss) : (i, j, y) ∈ placed 0 (addP ss a x) := by
  obtain ⟨s, h1, h2⟩ := placed_at h
  dsimp only at h1 h2
  by_cases hi : i = a
  · subst hi
    refine placed_of (addP_same h1) ?_
    show (s.items ++ [x])[j]? = some y
    rw [List.getElem?_append_left (List.getElem?_eq_some_iff.1 h2).1]
    exact h2
  · exact placed_of (by rw [addP_other hi]; exact h1) h2
/-- The new item is there. -/
theorem placed_new {ss : List Sc} {a : Nat} {x : It} {s : Sc} (h : ss[a]? = some s) : (a, s.items.length, x) ∈ placed 0 (addP ss a x) :=
  placed_of (addP_same h) (by show (s.items ++ [x])[s.items.length]? = some x; simp)
/-- Whether an item that means l means the same at the place p of another graph, its declarations standing where st tells. -/
def sameG (tt : List Sc) (st : Int × Int → Option (Int × Int)) (l : List (Int × Int)) (p : Int × Int) : Bool :=
  decide ((∀ d ∈ l, (st d).isSome = true) ∧ l.filterMap st = meanAt tt p.1 p.2)
/-- Whether an item is there in another graph and means something else. -/
def chgB1 (ss tt : List Sc) (st : Int × Int → Option (Int × Int)) (q : Nat × Nat × It) : Bool :=
  match st (plOf q) with
  | none => false
  | some p => !sameG tt st (meanIt ss q) p
/-- The places of the items that are there in another graph and mean something else. -/
def chgG (ss tt : List Sc) (st : Int × Int → Option (Int × Int)) : List (Int × Int) := filtL (chgB1 ss tt st) (placed 0 ss)
/-- Where an item stands when one is removed. -/
def stRmv (a b : Int) (p : Int × Int) : Option (Int × Int) := if p.1 = a ∧ p.2 = b then none else some (aftI a b p)
/-- Where an item stands when one is moved to the place e. -/
def stMov (a b : Int) (e : Int × Int) (p : Int × Int) : Option (Int × Int) := if p.1 = a ∧ p.2 = b then some e else some (aftI a b p)
end Go.Proofs.YtadpgoiiopfnnaaDoor
namespace Go.Proofs.YtadpgoiiopfnnaaDoor
open Go Go.RowKit
theorem stRmv_some {a b : Int} {d : Int × Int} : (stRmv a b d).isSome = true ↔ ¬ d = (a, b) := by
  unfold stRmv
  by_cases h : d.1 = a ∧ d.2 = b
  · rw [if_pos h]
    simp only [Option.isSome_none, Bool.false_eq_true, false_iff, Decidable.not_not]
    exact Prod.ext h.1 h.2
  · rw [if_neg h]
    simp only [Option.isSome_some, true_iff]
    intro e
    exact h (by rw [e]; exact ⟨rfl, rfl⟩)
theorem stRmv_get {a b : Int} {d : Int × Int} (h : ¬ d = (a, b)) : stRmv a b d = some (aftI a b d) := by
  unfold stRmv
  rw [if_neg (fun e => h (Prod.ext e.1 e.2))]
theorem stRmv_map {a b : Int} : ∀ {l : List (Int × Int)}, (a, b) ∉ l → l.filterMap (stRmv a b) = l.map (aftI a b)
  | [], _ => rfl
  | d :: r, h => by
    have h1 : ¬ d = (a, b) := fun e => h (by rw [e]; exact List.mem_cons_self)
    rw [List.filterMap_cons, stRmv_get h1, stRmv_map (fun e => h (List.mem_cons_of_mem _ e))]
    rfl
theorem stMov_map {a b : Int} {e : Int × Int} (l : List (Int × Int)) : (∀ d ∈ l, (stMov a b e d).isSome = true) ∧ l.filterMap (stMov a b e) = l.map (fun d => if d.1 = a ∧ d.2 = b then e else aftI a b d) := by
  have h1 : ∀ d, stMov a b e d = some (if d.1 = a ∧ d.2 = b then e else aftI a b d) := fun d => by unfold stMov; split <;> rfl
  refine ⟨fun d _ => by rw [h1]; rfl, ?_⟩
  rw [show stMov a b e = some ∘ (fun d => if d.1 = a ∧ d.2 = b then e else aftI a b d) from funext h1, List.filterMap_eq_map]
theorem sameG_rmv {ss : List Sc} {a b : Nat} {q : Nat × Nat × It} (hq : q ∈ placed 0 ss) (hne : ¬ (q.1 = a ∧ q.2.1 = b)) :
    sameG (rmvP ss a b) (stRmv (a : Int) (b : Int)) (meanIt ss q) (aftI (a : Int) (b : Int) (plOf q)) = sameB ss a b q := by
  obtain ⟨i, j, x⟩ := q
  have hm := meanAt_of (placed_rmv hq hne)
  unfold sameG sameB
  rw [show aftI (a : Int) (b : Int) (plOf (i, j, x)) = ((i : Int), (aftN a b i j : Int)) from aftI_nat a b i j]
  dsimp only
  rw [hm]
  by_cases h : ((a : Int), (b : Int)) ∈ meanIt ss (i, j, x)
  · rw [decide_eq_true h]
    simp only [Bool.not_true, Bool.false_and, decide_eq_false_iff_not]
    rintro ⟨h1, _⟩
    exact stRmv_some.1 (h1 _ h) rfl
  · rw [decide_eq_false h, stRmv_map h]
    simp only [Bool.not_false, Bool.true_and, decide_eq_decide]
    exact ⟨fun k => k.2, fun k => ⟨fun d hd => stRmv_some.2 (fun e => h (by rw [← e]; exact hd)), k⟩⟩
theorem filtL_congr {f g : Nat × Nat × It → Bool} {l : List (Nat × Nat × It)} (h : ∀ q ∈ l, f q = g q) : filtL f l = filtL g l := by
  unfold filtL
  rw [List.filter_congr h]
theorem chgG_rmv {ss : List Sc} {a b : Nat} : chgG ss (rmvP ss a b) (stRmv (a : Int) (b : Int)) = chgP ss a b := by
  refine filtL_congr fun q hq => ?_
  unfold chgB1 chgB
  by_cases h : q.1 = a ∧ q.2.1 = b
  · have h1 : stRmv (a : Int) (b : Int) (plOf q) = none := by
      unfold stRmv plOf
      rw [if_pos ⟨by rw [h.1], by rw [h.2]⟩]
    rw [h1, decide_eq_true h]
    rfl
  · have h1 : stRmv (a : Int) (b : Int) (plOf q) = some (aftI (a : Int) (b : Int) (plOf q)) := stRmv_get (fun e => h (by
      have e1 := congrArg Prod.fst e
      have e2 := congrArg Prod.snd e
      unfold plOf at e1 e2
      dsimp only at e1 e2
      omega))
    rw [h1, decide_eq_false h]
    dsimp only
    rw [sameG_rmv hq h]
    rfl
theorem sameG_add {tt : List Sc} {l : List (Int × Int)} {p : Int × Int} : sameG tt some l p = decide (l = meanAt tt p.1 p.2) := by
  unfold sameG
  rw [show l.filterMap some = l from List.filterMap_some]
  rw [decide_eq_decide]
  exact ⟨fun h => h.2, fun h => ⟨fun _ _ => rfl, h⟩⟩
/-- The places of the items that mean something else in another graph, where they have the same places. -/
def chgA (ss tt : List Sc) : List (Int × Int) := filtL (fun q => !decide (meanIt ss q = meanAt tt (q.1 : Int) (q.2.1 : Int))) (placed 0 ss)
theorem chgG_add {ss tt : List Sc} : chgG ss tt some = chgA ss tt := by
  refine filtL_congr fun q _ => ?_
  unfold chgB1
  dsimp only
  rw [sameG_add]
  rfl
theorem chgG_length (ss tt : List Sc) (st : Int × Int → Option (Int × Int)) : (chgG ss tt st).length ≤ (placed 0 ss).length := filtL_length _ _
theorem chgG_nil {ss tt : List Sc} {a b : Int} {e : Int × Int} : chgG ss tt (stMov a b e) = [] ↔ ∀ q ∈ placed 0 ss, (meanIt ss q).map (fun d => if d.1 = a ∧ d.2 = b then e else aftI a b d) = meanAt tt (if (plOf q).1 = a ∧ (plOf q).2 = b then e else aftI a b (plOf q)).1 (if (plOf q).1 = a ∧ (plOf q).2 = b then e else aftI a b (plOf q)).2 := by
  have key : ∀ q, chgB1 ss tt (stMov a b e) q = !decide ((meanIt ss q).map (fun d => if d.1 = a ∧ d.2 = b then e else aftI a b d) = meanAt tt (if (plOf q).1 = a ∧ (plOf q).2 = b then e else aftI a b (plOf q)).1 (if (plOf q).1 = a ∧ (plOf q).2 = b then e else aftI a b (plOf q)).2) := fun q => by
    unfold chgB1
    rw [show stMov a b e (plOf q) = some (if (plOf q).1 = a ∧ (plOf q).2 = b then e else aftI a b (plOf q)) from by unfold stMov; split <;> rfl]
    dsimp only
    unfold sameG
    have h2 := stMov_map (a := a) (b := b) (e := e) (meanIt ss q)
    rw [h2.2]
    congr 1
    rw [decide_eq_decide]
    exact ⟨fun k => k.2, fun k => ⟨h2.1, k⟩⟩
  unfold chgG filtL
  rw [List.map_eq_nil_iff, List.filter_eq_nil_iff]
  refine forall_congr' fun q => forall_congr' fun _ => ?_
  rw [key]
  simp
end Go.Proofs.YtadpgoiiopfnnaaDoor
