/-
  The declarations that are seen from a scope, as plain data; the walks of the given l5In, l5Sees and SeenFrom. Condition: the argument's memory holds the graph. Where the items of a graph without an item stand; which items mean something else then, as plain data. Plain facts. The walks of the given l6After and PlaceAfter and of impl's PlaceAfter: where a place stands behind a removal. No conditions. The walk of impl's (*lookup).importsOf, where the targets of the scope's items are told. The walks of impl's (*lookup).imported and way.from, where the targets of the scope's items are told. The walk of impl's (*lookup).find, where the targets of the items of the scopes on the way are told. The walks of impl's (*lookup).meantBy, (*tree).moduleAlone and (*lookup).target: what an import brings in, by strong induction on its scope's number. The walk of impl's PlacesOf. Conditions: the argument's memory holds the graph; the package-level errors hold errors. The walks of impl's (*lookup).meaning, resolutionOf and (*resolution).state. Conditions: the argument's memory holds the graph; the package-level errors hold errors. The walks of ImportTarget, the given one's and impl's. Conditions: the argument's memory holds the graph; the package-level errors hold errors. The walks of impl's (*resolution).state, ResolveItem and StateOf. Conditions: the argument's memory holds the graph; the package-level errors hold errors. Where the items of a graph with an item more stand. What items mean something else between two graphs, as plain data. Plain facts. What items mean something else when one is removed, added or moved: the same lists told in two ways. Plain facts. The walks of impl's slices.Equal at places and of (*comparison).same: whether an item means the same before and after, where it is told where each declaration stands. Conditions: two resolutions lie in memory; the function that is asked answers as is told. The walk of impl's (*comparison).same: whether an item means the same before and after, where it is told where each declaration stands. Conditions: two resolutions lie in memory; the function that is asked answers as is told.
-/
import Derived.Test.YtdmaaneilfjfcaaDoorJD
import Derived.Test.YtdmaaneilfjfcaaDoorJC
import Derived.Maps.AppendAt
import Derived.Test.YtdmaaneilfjfcaaDoorBase
import Derived.Test.YtdmaaneilfjfcaaDoorJB
import Derived.WalkMore
import Derived.BigQuiet
import Derived.Deep.RegionHeld3
import Derived.Test.YtdmaaneilfjfcaaDoorJA
namespace Go.Proofs.YtdmaaneilfjfcaaDoor
open Go Go.RowKit
def plOf (q : Nat × Nat × It) : Int × Int := ((q.1 : Int), (q.2.1 : Int))
/-- The places of those that pass a test. -/
def filtL (f : Nat × Nat × It → Bool) (l : List (Nat × Nat × It)) : List (Int × Int) := (l.filter f).map plOf
end Go.Proofs.YtdmaaneilfjfcaaDoor
namespace Go.Proofs.YtdmaaneilfjfcaaDoor
open Go Go.RowKit
end Go.Proofs.YtdmaaneilfjfcaaDoor
namespace Go.Proofs.YtdmaaneilfjfcaaDoor
open Go Go.RowKit
theorem ArgPlaces.grown {W W' : World} {oa : Option Addr} {l : List (Int × Int)} {row : Option Nat} (h : ArgPlaces W oa l) (hg : W.grownBy W' row) (hne : ∀ g, row = some g → ∀ b off, oa = some ⟨b, off, none⟩ → g ≠ b) : ArgPlaces W' oa l := by
  rcases h with h | ⟨b, off, rfl, hlt, hp⟩
  · exact .inl h
  · have hbk := hg.block b hlt (fun e => hne b e.symm b off rfl rfl)
    refine .inr ⟨b, off, rfl, Nat.lt_of_lt_of_le hlt hg.size, fun i p hi => ?_⟩
    obtain ⟨c0, c1⟩ := hp i p hi
    exact ⟨(World.cell?_of_block (a := ⟨b, off + i * 2, none⟩) hbk).trans c0, (World.cell?_of_block (a := ⟨b, off + i * 2 + 1, none⟩) hbk).trans c1⟩
/-- A list that lies apart from a row of one's own. -/
structure Aside (W : World) (v : Value) (ol : Option Addr) (l : List (Int × Int)) : Prop where
  args : ArgPlaces W ol l
  ne : ∀ g, v.ownBlock = some g → ∀ b off, ol = some ⟨b, off, none⟩ → g ≠ b
  lt : ∀ b off, ol = some ⟨b, off, none⟩ → b < W.heap.size
theorem Aside.below {W W' : World} {v : Value} {ol : Option Addr} {l : List (Int × Int)} (h : Aside W v ol l) (hb : Below W.heap.size W W') : Aside W' v ol l :=
  ⟨h.args.below hb, h.ne, fun b off e => Nat.lt_of_lt_of_le (h.lt b off e) hb.size⟩
theorem Aside.grown {W W' : World} {v v' : Value} {ol : Option Addr} {l : List (Int × Int)} {x y : Int} (h : Aside W v ol l) (hg : (W.alloc (.cells #[.int .i64 x, .int .i64 y] 35)).grownBy W' v.ownBlock) (hw : v'.ownBlock = v.ownBlock ∨ v'.ownBlock = some (W.heap.size + 1)) : Aside W' v' ol l := by
  have h1 := h.below ((Below.refl _ _).alloc (Nat.le_refl _) (.cells #[.int .i64 x, .int .i64 y] 35))
  refine ⟨h1.args.grown hg h1.ne, fun g hgo b off e => ?_, fun b off e => Nat.lt_of_lt_of_le (h1.lt b off e) hg.size⟩
  rcases hw with hw | hw
  · exact h.ne g (hw ▸ hgo) b off e
  · have := h.lt b off e
    rw [hw] at hgo
    simp only [Option.some.injEq] at hgo
    omega
end Go.Proofs.YtdmaaneilfjfcaaDoor
namespace Go.Proofs.YtdmaaneilfjfcaaDoor
open Go Go.RowKit
end Go.Proofs.YtdmaaneilfjfcaaDoor
namespace Go.Proofs.YtdmaaneilfjfcaaDoor
open Go Go.RowKit
end Go.Proofs.YtdmaaneilfjfcaaDoor
namespace Go.Proofs.YtdmaaneilfjfcaaDoor
open Go Go.RowKit Go.Maps
attribute [local go_sem ↓] field_kind field_name field_scope
theorem Memo.same {w w' : World} {M : Nat} {ss : List Sc} (h : Memo w M ss) (hb : w'.heap[M]? = w.heap[M]?) : Memo w' M ss := by
  obtain ⟨l, h1, h2, es, clock, hh, r⟩ := h
  exact ⟨l, h1, h2, es, clock, hb.trans hh, r⟩
/-- What turns blocks of the call's own alone. -/
theorem Left.far {w W W' : World} {B L M T M1 M2 : Nat} {v : Value} {ds : List Nd} {ss : List Sc} (hL : LookW w B L M T M1 M2 v ds ss) (h : Left w W B L M T M1 M2 v ds ss) (hb : Below w.heap.size W W') : Left w W' B L M T M1 M2 v ds ss :=
  have ht : Turns w W' M M := ⟨hb.os.trans h.turns.os, hb.tape.trans h.turns.tape, hb.output.trans h.turns.output, Nat.le_trans h.turns.size hb.size, fun g hg h1 h2 => (hb.block g hg).trans (h.turns.rest g hg h1 h2)⟩
  ⟨hL.turned ht (h.look.memo.same (hb.block M hL.memo.lt)), ht⟩
end Go.Proofs.YtdmaaneilfjfcaaDoor
namespace Go.Proofs.YtdmaaneilfjfcaaDoor
open Go Go.RowKit Go.Maps
end Go.Proofs.YtdmaaneilfjfcaaDoor
namespace Go.Proofs.YtdmaaneilfjfcaaDoor
open Go Go.RowKit Go.Maps
attribute [local go_sem] Oper.semAt_some
theorem build_find (w : World) : (Instr.build 170 #[(0, .int .i64 (-1))]).run Tryd.prog w = .ok (.agg #[.int .i64 (-1), .int .i64 0, .slice none 0 0]) w := by kernel_rfl
theorem index_way0 (w : World) : (Instr.index 188 (.agg #[.int .i64 1, .int .i64 2]) (.int .i64 ((0 : Nat) : Int))).run Tryd.prog w = .ok (.int .i64 1) w := by kernel_rfl
theorem index_way1 (w : World) : (Instr.index 188 (.agg #[.int .i64 1, .int .i64 2]) (.int .i64 ((1 : Nat) : Int))).run Tryd.prog w = .ok (.int .i64 2) w := by kernel_rfl
theorem index_way0' (w : World) : (Instr.index 188 (.agg #[.int .i64 1, .int .i64 2]) (.int .i64 0)).run Tryd.prog w = .ok (.int .i64 1) w := by kernel_rfl
theorem index_way1' (w : World) : (Instr.index 188 (.agg #[.int .i64 1, .int .i64 2]) (.int .i64 1)).run Tryd.prog w = .ok (.int .i64 2) w := by kernel_rfl
attribute [local go_sem ↓] build_find index_way0 index_way1 index_way0' index_way1'
end Go.Proofs.YtdmaaneilfjfcaaDoor
namespace Go.Proofs.YtdmaaneilfjfcaaDoor
open Go Go.RowKit Go.Maps
attribute [local go_sem ↓] field_kind field_name field_scope
theorem field_places (a b : Int) (oa : Option Addr) (n c : Nat) (w : World) : (Instr.field 170 (.agg #[.int .i64 a, .int .i64 b, .slice oa n c]) 2).run Tryd.prog w = .ok (.slice oa n c) w := by kernel_rfl
attribute [local go_sem ↓] field_places
end Go.Proofs.YtdmaaneilfjfcaaDoor
namespace Go.Proofs.YtdmaaneilfjfcaaDoor
open Go Go.RowKit Go.Maps
attribute [local go_sem] Oper.semAt_some
/-- One place appended, as the operation runs it where no order is drawn. -/
theorem append_place0 {W : World} {base k : Nat} {v : Value} {xs : List Value} (hrow : W.ownsRow base 35 2 v k xs) (x y : Int) (hk : k < 1000000) (hbase : base ≤ W.heap.size) (ty : TypeId) :
    ∃ v' w', (Builtin.append_ #[31, 31] ty #[v, .slice (some ⟨W.heap.size, 0, none⟩) 1 1]).run Tryd.prog (W.alloc (.cells #[.int .i64 x, .int .i64 y] 35)) = .ok v' w' ∧ w'.ownsRow base 35 2 v' (k + 1) (xs ++ [.int .i64 x, .int .i64 y]) ∧ (W.alloc (.cells #[.int .i64 x, .int .i64 y] 35)).grownBy w' v.ownBlock := by
  obtain ⟨i0, hi, hz0, hz1, hz2⟩ := info_parts infoPl
  obtain ⟨v', w', hrun, h2, h3, _, _⟩ := run_append_own_at (P := Tryd.prog) (W.alloc (.cells #[.int .i64 x, .int .i64 y] 35)) base 31 ty 35 i0 (.agg #[.int .i64 0, .int .i64 0]) 2 16 Tryd.underlying31 hi hz0 hz1 hz2 rfl (by decide) v k xs (hrow.alloc _) ⟨W.heap.size, 0, none⟩ 1 1 [.int .i64 x, .int .i64 y] rfl (cells_new2 W _ _ _)
    (by intro u hu; simp only [List.mem_cons, List.mem_nil_iff, or_false] at hu; rcases hu with rfl | rfl <;> rfl) (by unfold maxLen; omega) (by omega) (by show base ≤ (W.alloc _).heap.size; simp; omega)
  exact ⟨v', w', hrun, h2, h3⟩
def elPl {ss : List Sc} (kind : Int) (pre : List (El ss)) : List (Int × Int) := plsOf kind (pre.map Subtype.val)
set_option maxRecDepth 100000 in
set_option maxHeartbeats 4000000 in
theorem implPls_any (ss : List Sc) (hF : Fair ss) (oa : Option Addr) (cap : Nat) (kind : Int) (w : World) (hc : HoldsScopes w oa ss) (hE : TreeErrs w) :
    Calls Tryd.prog 18 #[.agg #[.slice oa ss.length cap], .int .i64 kind] w (PlGot (kindOk ss kind) (plsP ss kind) w) := by
  have hb0 := ((Below.refl w.heap.size w).alloc (Nat.le_refl _) (.cells #[.slice oa ss.length cap] 25)).alloc (by simp) (.cells #[.int .i64 kind] 3)
  have C := Lib.hid ((callsIn_wide (n := 5)).2 (hF.tree oa cap _ (hc.below hb0 (Nat.le_refl _)) (hE.below hb0 hE.size)))
  have HB0 := Lib.hid hb0
  have hR0 := Row.new (w.alloc (.cells #[.slice oa ss.length cap] 25)) [.int .i64 kind] 3
  rw [World.size_alloc] at hR0
  have R0 := Lib.hid hR0
  clear hF hc hE hb0 hR0
  refine (callsIn_wide (n := 6)).1 ?_
  refine callsIn_of_wp_marks Tryd.func18 rfl trivial ?_ rfl
  simp only [Tryd.ntmps18, List.size_toArray, List.length_cons, List.length_nil, Nat.reduceAdd, Nat.reduceSub, Array.replicate_succ, Array.replicate_zero, List.push_toArray, List.append_toArray, List.nil_append, List.cons_append]
  gi_wp2_with fail
  refine ⟨trivial, ?_⟩
  gi_at_call 35
  refine C.out.mono ?_
  rintro e w1 (⟨hv, ⟨tp, p, rfl⟩, hb⟩ | ⟨hv, T, M1, M2, v, ds, rfl, hb, hT⟩)
  · have HN : Hid (¬ kindOk ss kind) := Lib.hid (fun h => hv h.1)
    have HB := Lib.hid (HB0.out.trans (hb.mono HB0.out.size))
    clear hv hb
    gi_wp2
    exact ⟨_, results_tmp2 rfl _ _ _, .inl ⟨HN.out, rfl, HB.out⟩⟩
  · have HB := Lib.hid (HB0.out.trans (hb.mono HB0.out.size))
    have R1 := Lib.hid (R0.out.below hb R0.out.lt)
    have k1 := R1.out.cell (i := 0) (by rfl)
    have HV := Lib.hid hv
    have HT := Lib.hid hT
    clear hv hb hT
    by_cases hlo : kind < 1
    · have HN : Hid (¬ kindOk ss kind) := Lib.hid (fun h => by have := ((kind_in kind).1 h.2).1; omega)
      gi_wp2
      exact ⟨_, results_tmp2 rfl _ _ _, .inl ⟨HN.out, rfl, HB.out⟩⟩
    · by_cases hhi : 3 < kind
      · have HN : Hid (¬ kindOk ss kind) := Lib.hid (fun h => by have := ((kind_in kind).1 h.2).2; omega)
        gi_wp2
        exact ⟨_, results_tmp2 rfl _ _ _, .inl ⟨HN.out, rfl, HB.out⟩⟩
      · have HK : Hid (kindOk ss kind) := Lib.hid ⟨HV.out, (kind_in kind).2 ⟨by omega, by omega⟩⟩
        gi_wp2_with fail
        refine ⟨trivial, ?_⟩
        gi_at_call 41
        refine ((callsIn_wide (n := 5)).2 (all_any _ _)).mono ?_
        rintro e w2 ⟨rfl, rfl⟩
        gi_wp2
        have hBx : Below w1.heap.size w1 ((w1.alloc (.cells #[.slice none 0 0] 31)).alloc (.cells #[.pointer (some ⟨T, 0, none⟩)] 58)) := ((Below.refl _ _).alloc (Nat.le_refl _) _).alloc (by simp) _
        have bL := (Boxed.new w1 31 (.slice none 0 0)).alloc (.cells #[.pointer (some ⟨T, 0, none⟩)] 58)
        have bN := Boxed.new (w1.alloc (.cells #[.slice none 0 0] 31)) 58 (.pointer (some ⟨T, 0, none⟩))
        rw [World.size_alloc] at bN
        have hsm := HV.out.small
        refine wpIn_rangeFunc_ownH rfl (by omega) (gf := 66) (lb := #[.pointer (some ⟨w1.heap.size + 1, 0, none⟩)]) rfl trivial (enters_of Tryd.func66 (by kernel_rfl) rfl)
          (all_stops 5 (by omega) (w1.heap.size + 1) _ T M1 M2 v ds ss w1 _ HT.out.tree HT.out.hold (HT.out.ne HV.out) hsm.len hsm.items (.of_below hBx) bN.cell) CellsKept.trans (fun W l o o' _ h1 h2 h3 => cellsKept_b (w := w1) W l o o' (by simp at *; omega) h1 h2 h3) (Below.refl _ _) (fun _ => rfl)
          (fun pre W => (∃ u, Boxed W w1.heap.size 31 u ∧ W.ownsRow w1.heap.size 35 2 u (elPl kind pre).length (placeCells (elPl kind pre)) ∧ True) ∧ (CellsKept w1.heap.size w1 W ∧ Below w1.heap.size w1 W))
          (fun _ _ _ => False)
          (OwnFrom.and (Own.from (holdsRow_own w1.heap.size w1.heap.size 31 35 2 (fun pre : List (El ss) => (elPl kind pre).length) (fun pre => placeCells (elPl kind pre)) (fun _ _ => True)) _) (OwnFrom.and (cellsKept_own w1) (ownFrom_below (Nat.le_refl _) (by simp; omega))))
          (fun _ _ _ _ _ hs _ _ => hs)
          ⟨⟨_, bL, World.ownsRow_nil _ _ _ _, trivial⟩, .of_below hBx, hBx⟩
          (fun x a' W => ∃ Bp Bx, Row W Bp 35 [.int .i64 (x.1.1 : Int), .int .i64 (x.1.2.1 : Int)] ∧ Row W Bx 37 [.int .i64 x.1.2.2.kind, .string x.1.2.2.name, .int .i64 x.1.2.2.scope] ∧ w1.heap.size < Bp ∧ w1.heap.size < Bx ∧
            a' = { tmps := #[.agg #[.slice oa ss.length cap], .int .i64 (kind : Int), .pointer (some ⟨w.heap.size, 0, none⟩), .pointer (some ⟨w.heap.size + 1, 0, none⟩), .slice none 0 0, .bool false, .pointer (some ⟨T, 0, none⟩), .nilIface, .pointer (some ⟨w1.heap.size, 0, none⟩), .pointer (some ⟨Bp, 0, none⟩), .pointer (some ⟨Bx, 0, none⟩), .tuple #[.pointer (some ⟨T, 0, none⟩), .nilIface], .agg #[.slice oa ss.length cap], .tuple #[.pointer (some ⟨T, 0, none⟩), .nilIface], .pointer (some ⟨T, 0, none⟩), .nilIface, .nilIface, .bool false, .bool false, .int .i64 (kind : Int), .bool (decide (kind < 1)), .bool (decide (kind < 1)), .bool (decide (kind < 1)), .int .i64 (kind : Int), .bool (decide (3 < kind)), .bool (decide (kind < 1) || decide (3 < kind)), .pointer (some ⟨T, 0, none⟩), .func (.func 66) #[] #[.pointer (some ⟨w1.heap.size + 1, 0, none⟩)], .agg #[.int .i64 (x.1.1 : Int), .int .i64 (x.1.2.1 : Int)], .agg #[.int .i64 x.1.2.2.kind, .string x.1.2.2.name, .int .i64 x.1.2.2.scope], undef, undef, undef, undef, undef, undef, undef, undef, undef], defers := [] })
          (fun x a' _ X Y row hs hg hr => by obtain ⟨Bp, Bx, h1, h2, h3, h4, h5⟩ := hs; exact ⟨Bp, Bx, h1.kept_cells hg (fun r e => (hr r e).2), h2.kept_cells hg (fun r e => (hr r e).2), h3, h4, h5⟩)
          ?assign ?body ?done ?stop
        case assign =>
          rintro l pre x W K hi hK
          dsimp only [elArgs]
          gi_wp2
          have ha : Below W.heap.size W ((W.alloc (.cells #[.int .i64 (x.1.1 : Int), .int .i64 (x.1.2.1 : Int)] 35)).alloc (.cells #[.int .i64 x.1.2.2.kind, .string x.1.2.2.name, .int .i64 x.1.2.2.scope] 37)) := ((Below.refl _ _).alloc (Nat.le_refl _) _).alloc (by simp) _
          obtain ⟨⟨u, hB, hrow, -⟩, hck, hbw⟩ := hi
          have hlt := hB.lt
          refine hK _ _ (((KeepsOthers.alloc _ _).trans (KeepsOthers.alloc _ _)).from _) ((CellsKept.of_below ha).mono hbw.size) ⟨⟨u, (hB.alloc _).alloc _, (hrow.alloc _).alloc _, trivial⟩, hck.trans ((CellsKept.of_below ha).mono hbw.size), hbw.trans (ha.mono hbw.size)⟩ ⟨W.heap.size, W.heap.size + 1, ?_, ?_, hlt, by omega, rfl⟩
          · exact (Row.new W [.int .i64 (x.1.1 : Int), .int .i64 (x.1.2.1 : Int)] 35).alloc _
          · have := Row.new (W.alloc (.cells #[.int .i64 (x.1.1 : Int), .int .i64 (x.1.2.1 : Int)] 35)) [.int .i64 x.1.2.2.kind, .string x.1.2.2.name, .int .i64 x.1.2.2.scope] 37
            rw [World.size_alloc] at this
            exact this
        case body =>
          rintro l pre x a' W hl _ ⟨⟨u, hB, hrow, -⟩, hck, hbw⟩ ⟨Bp, Bx, hp, hx, hlp, hlx, rfl⟩ hlen
          obtain ⟨⟨i, j, it⟩, hmem⟩ := x
          have HQ : Hid (elPl kind (pre ++ [(⟨(i, j, it), hmem⟩ : El ss)]) = elPl kind pre ++ if it.kind = kind then [((i : Int), (j : Int))] else []) := Lib.hid (by unfold elPl; rw [List.map_append]; exact plsOf_snoc kind _ _)
          dsimp only at hp hx ⊢
          have hlen' : (elPl kind pre).length < 1000000 := by
            have h1 := plsOf_length kind (pre.map Subtype.val)
            have h2 := placed_bound 0 ss 6 5 HV.out.count.2 HV.out.five
            rw [List.length_map] at h1
            unfold elPl
            omega
          have p0 := hp.cell (i := 0) (by rfl)
          have p1 := hp.cell (i := 1) (by rfl)
          have x0 := hx.cell (i := 0) (by rfl)
          have ck := hck.cell R1.out.lt k1
          have HCB := Lib.hid (And.intro hck hbw)
          have hlt := hB.lt
          have HSM : Hid (w1.heap.size ≤ W.heap.size) := Lib.hid hbw.size
          by_cases he : it.kind = kind
          · have hq : (it.kind == kind) = true := by simpa using he
            have HE : Hid (elPl kind (pre ++ [(⟨(i, j, it), hmem⟩ : El ss)]) = elPl kind pre ++ [((i : Int), (j : Int))]) := Lib.hid (by rw [HQ.out, if_pos he])
            obtain ⟨v', w3, hrun, hown', hgrow⟩ := append_place0 hrow (i : Int) (j : Int) hlen' hbw.size 31
            have hown2 := hown'
            obtain ⟨g', cap', rfl⟩ := ownsRow_succ hown'
            simp [go_sem] at hrun
            obtain ⟨hv1, hv2, hr2, hk2, hb2⟩ := hB.appended (by decide) hrow hbw.size (Nat.le_refl _) hown2 hgrow
            have c0 := hB.cell
            have c0' := (hB.alloc (.cells #[.int .i64 (i : Int), .int .i64 (j : Int)] 35)).cell
            have c1 := hv1.cell
            have f1 := hv1.frozen
            have HP := Lib.hid (And.intro hv2 (And.intro hr2 (And.intro hk2 hb2)))
            clear hB hrow hck hbw hown' hown2 hgrow hv1 hv2 hr2 hk2 hb2 he hp hx
            gi_wp2
            refine ⟨HP.out.2.2.1.from _, .of_below HP.out.2.2.2, ⟨_, HP.out.1, ?_, trivial⟩, HCB.out.1.trans (.of_below HP.out.2.2.2), HCB.out.2.trans HP.out.2.2.2⟩
            rw [HE.out, List.length_append, placeCells_snoc]
            exact HP.out.2.1
          · have hq : (it.kind == kind) = false := by simpa using he
            have HE : Hid (elPl kind (pre ++ [(⟨(i, j, it), hmem⟩ : El ss)]) = elPl kind pre) := Lib.hid (by rw [HQ.out, if_neg he, List.append_nil])
            have HP := Lib.hid (And.intro hB hrow)
            clear hB hrow hck hbw he hp hx
            gi_wp2
            refine ⟨KeepsFrom.refl _ _, CellsKept.refl _ _, ⟨u, HP.out.1, ?_, trivial⟩, HCB.out.1, HCB.out.2⟩
            rw [HE.out]
            exact HP.out.2
        case done =>
          rintro D xs W hD hS ⟨⟨u, hB, hrow, -⟩, hck, hbw⟩ hK
          have cB := hB.cell
          have HS2 : Hid (elPl kind xs = plsP ss kind) := Lib.hid (by unfold elPl plsP; rw [hS])
          clear hS
          gi_wp2
          refine ⟨by simp, .inl ⟨_, _, rfl, run_takeDeferred hK, ?_⟩⟩
          have hrow2 := ownsRow_lower (ownsRow_putObj hrow (.deferred none) hK rfl) (show w.heap.size ≤ w1.heap.size from HB.out.size)
          rw [HS2.out] at hrow2
          have hend : Below w.heap.size w (W.putObj D (.deferred none)) := HB.out.trans ((hbw.mono HB.out.size).trans (belowK_b (w := w) (Nat.le_refl _) W D _ _ (by have := HB.out.size; simp at hD; omega) hK rfl rfl))
          exact ⟨_, results_tmp2 rfl _ _ _, .inr ⟨HK.out, u, rfl, hrow2, hend⟩⟩
        case stop =>
          rintro D c pre W _ _ h _
          exact h.elim
end Go.Proofs.YtdmaaneilfjfcaaDoor
namespace Go.Proofs.YtdmaaneilfjfcaaDoor
open Go Go.RowKit Go.Maps
attribute [local go_sem] Oper.semAt_some
attribute [local go_sem ↓] field_kind field_name field_scope field_places
theorem Row.cells {w w' : World} {g : Nat} {t : TypeId} {vs : List Value} (h : Row w g t vs) (hk : CellsKept w.heap.size w w') : Row w' g t vs := hk.block g _ _ _ h.lt h
/-- What holds when some meanings are laid. -/
structure ResRun (W0 : World) (B M MR : Nat) (ss : List Sc) (pre : List (Nat × Nat × It)) (W : World) : Prop where
  turns : Turns W0 W M MR
  memo : Memo W M ss
  mean : ∃ l : List Ent, l.map Prod.fst = pre ∧ MeanW W B MR ss l
theorem cells_of_grown {A B : World} {row : Option Nat} (hg : A.grownBy B row) (hr : ∀ r, row = some r → ∃ o : Obj, A.heap[r]? = some o ∧ o.isCells = false) : CellsKept A.heap.size A B :=
  ⟨hg.size, fun g vs t fr _ hh => (hg.block g (Array.getElem?_eq_some_iff.1 hh).1 (fun e => by obtain ⟨o, ho, hc⟩ := hr g e.symm; rw [hh] at ho; cases ho; cases hc)).trans hh⟩
theorem ResRun.cells {W0 W : World} {B M MR : Nat} {ss : List Sc} {pre : List (Nat × Nat × It)} (h : ResRun W0 B M MR ss pre W) (m1 : Memo W0 M ss) {l0 : List Ent} (m2 : MeanW W0 B MR ss l0) : CellsKept W0.heap.size W0 W := by
  obtain ⟨l, _, _, m⟩ := m1
  exact h.turns.cells m m2.map
end Go.Proofs.YtdmaaneilfjfcaaDoor
namespace Go.Proofs.YtdmaaneilfjfcaaDoor
open Go Go.RowKit Go.Maps
attribute [local go_sem ↓] field_kind field_name field_scope
/-- What ImportTarget answers. -/
def TgtVal (ss : List Sc) (a b z : Int) : Prop := (Valid ss ∧ ∃ x, itemAtP ss a b = some x ∧ x.kind = 3 ∧ z = targetP ss a.toNat x.name) ∨ (¬ (Valid ss ∧ ∃ x, itemAtP ss a b = some x ∧ x.kind = 3) ∧ z = -1)
theorem TgtVal.same {ss : List Sc} {a b z z' : Int} (h : TgtVal ss a b z) (k : TgtVal ss a b z') : z = z' := by
  rcases h with ⟨hv, x, hx, hk, rfl⟩ | ⟨hn, rfl⟩
  · rcases k with ⟨_, y, hy, _, rfl⟩ | ⟨kn, _⟩
    · rw [hx] at hy; cases hy; rfl
    · exact absurd ⟨hv, x, hx, hk⟩ kn
  · rcases k with ⟨kv, y, hy, kk, _⟩ | ⟨_, rfl⟩
    · exact absurd ⟨kv, y, hy, kk⟩ hn
    · rfl
end Go.Proofs.YtdmaaneilfjfcaaDoor
namespace Go.Proofs.YtdmaaneilfjfcaaDoor
open Go Go.RowKit Go.Maps
attribute [local go_sem ↓] field_kind field_name field_scope field_places
/-- There is an item; what it means. -/
def meanAt (ss : List Sc) (a b : Int) : List (Int × Int) := match itemAtP ss a b with
  | none => []
  | some x => meanIt ss (a.toNat, b.toNat, x)
theorem meanAt_of {ss : List Sc} {i j : Nat} {x : It} (h : (i, j, x) ∈ placed 0 ss) : meanAt ss (i : Int) (j : Int) = meanIt ss (i, j, x) := by
  have := placed_item h
  dsimp only at this
  unfold meanAt
  rw [this]
  rfl
theorem itemHas_of {ss : List Sc} (hv : Valid ss) {i j : Nat} {x : It} (h : (i, j, x) ∈ placed 0 ss) : itemHas ss (i : Int) (j : Int) := by
  have := placed_item h
  dsimp only at this
  exact ⟨hv, by rw [this]; rfl⟩
/-- What StateOf answers. -/
def StVal (ss : List Sc) (a b z : Int) : Prop := (Valid ss ∧ ∃ i j x, a = (i : Nat) ∧ b = (j : Nat) ∧ (i, j, x) ∈ placed 0 ss ∧ z = stateIt ss (i, j, x)) ∨ (¬ itemHas ss a b ∧ z = 0)
theorem StVal.same {ss : List Sc} {a b z z' : Int} (h : StVal ss a b z) (k : StVal ss a b z') : z = z' := by
  rcases h with ⟨hv, i, j, x, rfl, rfl, hx, rfl⟩ | ⟨hn, rfl⟩
  · rcases k with ⟨_, i', j', y, hi, hj, hy, rfl⟩ | ⟨kn, _⟩
    · obtain rfl : i = i' := by omega
      obtain rfl : j = j' := by omega
      have h1 := placed_item hx
      have h2 := placed_item hy
      dsimp only at h1 h2
      rw [h1] at h2
      cases h2
      rfl
    · exact absurd (itemHas_of hv hx) kn
  · rcases k with ⟨kv, i', j', y, rfl, rfl, hy, _⟩ | ⟨_, rfl⟩
    · exact absurd (itemHas_of kv hy) hn
    · rfl
end Go.Proofs.YtdmaaneilfjfcaaDoor
namespace Go.Proofs.YtdmaaneilfjfcaaDoor
open Go Go.RowKit
end Go.Proofs.YtdmaaneilfjfcaaDoor
namespace Go.Proofs.YtdmaaneilfjfcaaDoor
open Go Go.RowKit
/-- The places of the items that mean something else in another graph, where they have the same places. -/
def chgA (ss tt : List Sc) : List (Int × Int) := filtL (fun q => !decide (meanIt ss q = meanAt tt (q.1 : Int) (q.2.1 : Int))) (placed 0 ss)
end Go.Proofs.YtdmaaneilfjfcaaDoor
namespace Go.Proofs.YtdmaaneilfjfcaaDoor
open Go Go.RowKit Go.Maps
end Go.Proofs.YtdmaaneilfjfcaaDoor
namespace Go.Proofs.YtdmaaneilfjfcaaDoor
open Go Go.RowKit Go.Maps
/-- What a function tells of where a place stands. -/
def StTold (st : Int × Int → Option (Int × Int)) (d : Int × Int) (x y : Int) (ok : Bool) : Prop := (ok = true ∧ st d = some (x, y)) ∨ (ok = false ∧ st d = none)
/-- A function value that tells where places stand, in every world behind w. -/
def StandsOk (w : World) (u : Value) (st : Int × Int → Option (Int × Int)) : Prop := ∃ (f : Nat) (lb : Array Value), u = .func (.func f) #[] lb ∧ (∀ args W, (callFunc f args).run Tryd.prog W = .ok (.enter f args) W) ∧
  ∀ (i j : Nat) (W : World), i < 1000 → j < 1000 → Below w.heap.size w W → Calls Tryd.prog f (#[.agg #[.int .i64 (i : Int), .int .i64 (j : Int)]] ++ lb) W fun e W' => ∃ x y ok, e = .returned (.tuple #[.agg #[.int .i64 x, .int .i64 y], .bool ok]) ∧ StTold st ((i : Int), (j : Int)) x y ok ∧ Below W.heap.size W W'
theorem StandsOk.below {w w' : World} {u : Value} {st : Int × Int → Option (Int × Int)} (h : StandsOk w u st) (hb : Below w.heap.size w w') : StandsOk w' u st := by
  obtain ⟨f, lb, h1, h2, h3⟩ := h
  exact ⟨f, lb, h1, h2, fun i j W hi hj hW => h3 i j W hi hj (hb.trans (hW.mono hb.size))⟩
/-- A resolution of a graph lies in memory. -/
def ResIs (w : World) (R : Nat) (ss : List Sc) : Prop := ∃ (B T M1 M2 MR : Nat) (v : Value) (ds : List Nd) (l : List Ent), ResW w B R T M1 M2 MR v ds ss l
theorem ResIs.below {w w' : World} {R : Nat} {ss : List Sc} (h : ResIs w R ss) (hb : Below w.heap.size w w') : ResIs w' R ss := by
  obtain ⟨B, T, M1, M2, MR, v, ds, l, h⟩ := h
  exact ⟨B, T, M1, M2, MR, v, ds, l, h.below hb⟩
end Go.Proofs.YtdmaaneilfjfcaaDoor
