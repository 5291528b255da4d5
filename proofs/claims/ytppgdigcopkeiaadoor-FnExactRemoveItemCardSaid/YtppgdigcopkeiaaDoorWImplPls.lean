/-
  The walk of impl's PlacesOf. Conditions: the argument's memory holds the graph; the package-level errors hold errors.
-/
import Derived.Test.YtppgdigcopkeiaaDoorWSpecPls
import Derived.Test.YtppgdigcopkeiaaDoorWImplChain
namespace Go.Proofs.YtppgdigcopkeiaaDoor
open Go Go.RowKit Go.Maps
attribute [local go_sem] Oper.semAt_some
/-- One place appended, as the operation runs it where no order is drawn. -/
theorem append_place0 {W : World} {base k : Nat} {v : Value} {xs : List Value} (hrow : W.ownsRow base 34 2 v k xs) (x y : Int) (hk : k < 1000000) (hbase : base ≤ W.heap.size) (ty : TypeId) :
    ∃ v' w', (Builtin.append_ #[39, 39] ty #[v, .slice (some ⟨W.heap.size, 0, none⟩) 1 1]).run Tryd.prog (W.alloc (.cells #[.int .i64 x, .int .i64 y] 34)) = .ok v' w' ∧ w'.ownsRow base 34 2 v' (k + 1) (xs ++ [.int .i64 x, .int .i64 y]) ∧ (W.alloc (.cells #[.int .i64 x, .int .i64 y] 34)).grownBy w' v.ownBlock := by
  obtain ⟨i0, hi, hz0, hz1, hz2⟩ := info_parts infoPl
  obtain ⟨v', w', hrun, h2, h3, _, _⟩ := run_append_own_at (P := Tryd.prog) (W.alloc (.cells #[.int .i64 x, .int .i64 y] 34)) base 39 ty 34 i0 (.agg #[.int .i64 0, .int .i64 0]) 2 16 Tryd.underlying39 hi hz0 hz1 hz2 rfl (by decide) v k xs (hrow.alloc _) ⟨W.heap.size, 0, none⟩ 1 1 [.int .i64 x, .int .i64 y] rfl (cells_new2 W _ _ _)
    (by intro u hu; simp only [List.mem_cons, List.mem_nil_iff, or_false] at hu; rcases hu with rfl | rfl <;> rfl) (by unfold maxLen; omega) (by omega) (by show base ≤ (W.alloc _).heap.size; simp; omega)
  exact ⟨v', w', hrun, h2, h3⟩
def elPl {ss : List Sc} (kind : Int) (pre : List (El ss)) : List (Int × Int) := plsOf kind (pre.map Subtype.val)
set_option maxRecDepth 100000 in
set_option maxHeartbeats 4000000 in
theorem implPls_any (ss : List Sc) (hF : Fair ss) (oa : Option Addr) (cap : Nat) (kind : Int) (w : World) (hc : HoldsScopes w oa ss) (hE : TreeErrs w) :
    Calls Tryd.prog 47 #[.agg #[.slice oa ss.length cap], .int .i64 kind] w (PlGot (kindOk ss kind) (plsP ss kind) w) := by
  have hb0 := ((Below.refl w.heap.size w).alloc (Nat.le_refl _) (.cells #[.slice oa ss.length cap] 30)).alloc (by simp) (.cells #[.int .i64 kind] 3)
  have C := Lib.hid ((callsIn_wide (n := 5)).2 (hF.tree oa cap _ (hc.below hb0 (Nat.le_refl _)) (hE.below hb0 hE.size)))
  have HB0 := Lib.hid hb0
  have hR0 := Row.new (w.alloc (.cells #[.slice oa ss.length cap] 30)) [.int .i64 kind] 3
  rw [World.size_alloc] at hR0
  have R0 := Lib.hid hR0
  clear hF hc hE hb0 hR0
  refine (callsIn_wide (n := 6)).1 ?_
  refine callsIn_of_wp_marks Tryd.func47 rfl trivial ?_ rfl
  simp only [Tryd.ntmps47, List.size_toArray, List.length_cons, List.length_nil, Nat.reduceAdd, Nat.reduceSub, Array.replicate_succ, Array.replicate_zero, List.push_toArray, List.append_toArray, List.nil_append, List.cons_append]
  gi_wp2_with fail
  refine ⟨trivial, ?_⟩
  gi_at_call 114
  refine C.out.mono ?_
  rintro e w1 (⟨hv, ⟨tp, p, rfl⟩, hb⟩ | ⟨hv, T, M1, M2, v, ds, rfl, hb, hT⟩)
  · have HN : Hid (¬ kindOk ss kind) := Lib.hid (fun h => hv h.1)
    have HB := Lib.hid (HB0.out.trans (hb.mono HB0.out.size))
    clear hv hb
    gi_wp2
    exact ⟨_, results_tmp2 rfl _ _ _, .inl ⟨HN.out, rfl, HB.out⟩⟩
  · have HB := Lib.hid (HB0.out.trans (hb.mono HB0.out.size))
    have R1 := Lib.hid (R0.out.below hb R0.out.lt)
    have k1 := R1.out.cell (i := 0) (by rfl)
    have HV := Lib.hid hv
    have HT := Lib.hid hT
    clear hv hb hT
    by_cases hlo : kind < 1
    · have HN : Hid (¬ kindOk ss kind) := Lib.hid (fun h => by have := ((kind_in kind).1 h.2).1; omega)
      gi_wp2
      exact ⟨_, results_tmp2 rfl _ _ _, .inl ⟨HN.out, rfl, HB.out⟩⟩
    · by_cases hhi : 3 < kind
      · have HN : Hid (¬ kindOk ss kind) := Lib.hid (fun h => by have := ((kind_in kind).1 h.2).2; omega)
        gi_wp2
        exact ⟨_, results_tmp2 rfl _ _ _, .inl ⟨HN.out, rfl, HB.out⟩⟩
      · have HK : Hid (kindOk ss kind) := Lib.hid ⟨HV.out, (kind_in kind).2 ⟨by omega, by omega⟩⟩
        gi_wp2_with fail
        refine ⟨trivial, ?_⟩
        gi_at_call 107
        refine ((callsIn_wide (n := 5)).2 (all_any _ _)).mono ?_
        rintro e w2 ⟨rfl, rfl⟩
        gi_wp2
        have hBx : Below w1.heap.size w1 ((w1.alloc (.cells #[.slice none 0 0] 39)).alloc (.cells #[.pointer (some ⟨T, 0, none⟩)] 91)) := ((Below.refl _ _).alloc (Nat.le_refl _) _).alloc (by simp) _
        have bL := (Boxed.new w1 39 (.slice none 0 0)).alloc (.cells #[.pointer (some ⟨T, 0, none⟩)] 91)
        have bN := Boxed.new (w1.alloc (.cells #[.slice none 0 0] 39)) 91 (.pointer (some ⟨T, 0, none⟩))
        rw [World.size_alloc] at bN
        have hsm := HV.out.small
        refine wpIn_rangeFunc_ownH rfl (by omega) (gf := 148) (lb := #[.pointer (some ⟨w1.heap.size + 1, 0, none⟩)]) rfl trivial (enters_of Tryd.func148 (by kernel_rfl) rfl)
          (all_stops 5 (by omega) (w1.heap.size + 1) _ T M1 M2 v ds ss w1 _ HT.out.tree HT.out.hold (HT.out.ne HV.out) hsm.len hsm.items (.of_below hBx) bN.cell) CellsKept.trans (fun W l o o' _ h1 h2 h3 => cellsKept_b (w := w1) W l o o' (by simp at *; omega) h1 h2 h3) (Below.refl _ _) (fun _ => rfl)
          (fun pre W => (∃ u, Boxed W w1.heap.size 39 u ∧ W.ownsRow w1.heap.size 34 2 u (elPl kind pre).length (placeCells (elPl kind pre)) ∧ True) ∧ (CellsKept w1.heap.size w1 W ∧ Below w1.heap.size w1 W))
          (fun _ _ _ => False)
          (OwnFrom.and (Own.from (holdsRow_own w1.heap.size w1.heap.size 39 34 2 (fun pre : List (El ss) => (elPl kind pre).length) (fun pre => placeCells (elPl kind pre)) (fun _ _ => True)) _) (OwnFrom.and (cellsKept_own w1) (ownFrom_below (Nat.le_refl _) (by simp; omega))))
          (fun _ _ _ _ _ hs _ _ => hs)
          ⟨⟨_, bL, World.ownsRow_nil _ _ _ _, trivial⟩, .of_below hBx, hBx⟩
          (fun x a' W => ∃ Bp Bx, Row W Bp 34 [.int .i64 (x.1.1 : Int), .int .i64 (x.1.2.1 : Int)] ∧ Row W Bx 60 [.int .i64 x.1.2.2.kind, .string x.1.2.2.name, .int .i64 x.1.2.2.scope] ∧ w1.heap.size < Bp ∧ w1.heap.size < Bx ∧
            a' = { tmps := #[.agg #[.slice oa ss.length cap], .int .i64 (kind : Int), .pointer (some ⟨w.heap.size, 0, none⟩), .pointer (some ⟨w.heap.size + 1, 0, none⟩), .slice none 0 0, .bool false, .pointer (some ⟨T, 0, none⟩), .nilIface, .pointer (some ⟨w1.heap.size, 0, none⟩), .pointer (some ⟨Bp, 0, none⟩), .pointer (some ⟨Bx, 0, none⟩), .tuple #[.pointer (some ⟨T, 0, none⟩), .nilIface], .agg #[.slice oa ss.length cap], .tuple #[.pointer (some ⟨T, 0, none⟩), .nilIface], .pointer (some ⟨T, 0, none⟩), .nilIface, .nilIface, .bool false, .bool false, .int .i64 (kind : Int), .bool (decide (kind < 1)), .bool (decide (kind < 1)), .bool (decide (kind < 1)), .int .i64 (kind : Int), .bool (decide (3 < kind)), .bool (decide (kind < 1) || decide (3 < kind)), .pointer (some ⟨T, 0, none⟩), .func (.func 148) #[] #[.pointer (some ⟨w1.heap.size + 1, 0, none⟩)], .agg #[.int .i64 (x.1.1 : Int), .int .i64 (x.1.2.1 : Int)], .agg #[.int .i64 x.1.2.2.kind, .string x.1.2.2.name, .int .i64 x.1.2.2.scope], undef, undef, undef, undef, undef, undef, undef, undef, undef], defers := [] })
          (fun x a' _ X Y row hs hg hr => by obtain ⟨Bp, Bx, h1, h2, h3, h4, h5⟩ := hs; exact ⟨Bp, Bx, h1.kept_cells hg (fun r e => (hr r e).2), h2.kept_cells hg (fun r e => (hr r e).2), h3, h4, h5⟩)
          ?assign ?body ?done ?stop
        case assign =>
          rintro l pre x W K hi hK
          dsimp only [elArgs]
          gi_wp2
          have ha : Below W.heap.size W ((W.alloc (.cells #[.int .i64 (x.1.1 : Int), .int .i64 (x.1.2.1 : Int)] 34)).alloc (.cells #[.int .i64 x.1.2.2.kind, .string x.1.2.2.name, .int .i64 x.1.2.2.scope] 60)) := ((Below.refl _ _).alloc (Nat.le_refl _) _).alloc (by simp) _
          obtain ⟨⟨u, hB, hrow, -⟩, hck, hbw⟩ := hi
          have hlt := hB.lt
          refine hK _ _ (((KeepsOthers.alloc _ _).trans (KeepsOthers.alloc _ _)).from _) ((CellsKept.of_below ha).mono hbw.size) ⟨⟨u, (hB.alloc _).alloc _, (hrow.alloc _).alloc _, trivial⟩, hck.trans ((CellsKept.of_below ha).mono hbw.size), hbw.trans (ha.mono hbw.size)⟩ ⟨W.heap.size, W.heap.size + 1, ?_, ?_, hlt, by omega, rfl⟩
          · exact (Row.new W [.int .i64 (x.1.1 : Int), .int .i64 (x.1.2.1 : Int)] 34).alloc _
          · have := Row.new (W.alloc (.cells #[.int .i64 (x.1.1 : Int), .int .i64 (x.1.2.1 : Int)] 34)) [.int .i64 x.1.2.2.kind, .string x.1.2.2.name, .int .i64 x.1.2.2.scope] 60
            rw [World.size_alloc] at this
            exact this
        case body =>
          rintro l pre x a' W hl _ ⟨⟨u, hB, hrow, -⟩, hck, hbw⟩ ⟨Bp, Bx, hp, hx, hlp, hlx, rfl⟩ hlen
          obtain ⟨⟨i, j, it⟩, hmem⟩ := x
          have HQ : Hid (elPl kind (pre ++ [(⟨(i, j, it), hmem⟩ : El ss)]) = elPl kind pre ++ if it.kind = kind then [((i : Int), (j : Int))] else []) := Lib.hid (by unfold elPl; rw [List.map_append]; exact plsOf_snoc kind _ _)
          dsimp only at hp hx ⊢
          have hlen' : (elPl kind pre).length < 1000000 := by
            have h1 := plsOf_length kind (pre.map Subtype.val)
            have h2 := placed_bound 0 ss 6 5 HV.out.count.2 HV.out.five
            rw [List.length_map] at h1
            unfold elPl
            omega
          have p0 := hp.cell (i := 0) (by rfl)
          have p1 := hp.cell (i := 1) (by rfl)
          have x0 := hx.cell (i := 0) (by rfl)
          have ck := hck.cell R1.out.lt k1
          have HCB := Lib.hid (And.intro hck hbw)
          have hlt := hB.lt
          have HSM : Hid (w1.heap.size ≤ W.heap.size) := Lib.hid hbw.size
          by_cases he : it.kind = kind
          · have hq : (it.kind == kind) = true := by simpa using he
            have HE : Hid (elPl kind (pre ++ [(⟨(i, j, it), hmem⟩ : El ss)]) = elPl kind pre ++ [((i : Int), (j : Int))]) := Lib.hid (by rw [HQ.out, if_pos he])
            obtain ⟨v', w3, hrun, hown', hgrow⟩ := append_place0 hrow (i : Int) (j : Int) hlen' hbw.size 39
            have hown2 := hown'
            obtain ⟨g', cap', rfl⟩ := ownsRow_succ hown'
            simp [go_sem] at hrun
            obtain ⟨hv1, hv2, hr2, hk2, hb2⟩ := hB.appended (by decide) hrow hbw.size (Nat.le_refl _) hown2 hgrow
            have c0 := hB.cell
            have c0' := (hB.alloc (.cells #[.int .i64 (i : Int), .int .i64 (j : Int)] 34)).cell
            have c1 := hv1.cell
            have f1 := hv1.frozen
            have HP := Lib.hid (And.intro hv2 (And.intro hr2 (And.intro hk2 hb2)))
            clear hB hrow hck hbw hown' hown2 hgrow hv1 hv2 hr2 hk2 hb2 he hp hx
            gi_wp2
            refine ⟨HP.out.2.2.1.from _, .of_below HP.out.2.2.2, ⟨_, HP.out.1, ?_, trivial⟩, HCB.out.1.trans (.of_below HP.out.2.2.2), HCB.out.2.trans HP.out.2.2.2⟩
            rw [HE.out, List.length_append, placeCells_snoc]
            exact HP.out.2.1
          · have hq : (it.kind == kind) = false := by simpa using he
            have HE : Hid (elPl kind (pre ++ [(⟨(i, j, it), hmem⟩ : El ss)]) = elPl kind pre) := Lib.hid (by rw [HQ.out, if_neg he, List.append_nil])
            have HP := Lib.hid (And.intro hB hrow)
            clear hB hrow hck hbw he hp hx
            gi_wp2
            refine ⟨KeepsFrom.refl _ _, CellsKept.refl _ _, ⟨u, HP.out.1, ?_, trivial⟩, HCB.out.1, HCB.out.2⟩
            rw [HE.out]
            exact HP.out.2
        case done =>
          rintro D xs W hD hS ⟨⟨u, hB, hrow, -⟩, hck, hbw⟩ hK
          have cB := hB.cell
          have HS2 : Hid (elPl kind xs = plsP ss kind) := Lib.hid (by unfold elPl plsP; rw [hS])
          clear hS
          gi_wp2
          refine ⟨by simp, .inl ⟨_, _, rfl, run_takeDeferred hK, ?_⟩⟩
          have hrow2 := ownsRow_lower (ownsRow_putObj hrow (.deferred none) hK rfl) (show w.heap.size ≤ w1.heap.size from HB.out.size)
          rw [HS2.out] at hrow2
          have hend : Below w.heap.size w (W.putObj D (.deferred none)) := HB.out.trans ((hbw.mono HB.out.size).trans (belowK_b (w := w) (Nat.le_refl _) W D _ _ (by have := HB.out.size; simp at hD; omega) hK rfl rfl))
          exact ⟨_, results_tmp2 rfl _ _ _, .inr ⟨HK.out, u, rfl, hrow2, hend⟩⟩
        case stop =>
          rintro D c pre W _ _ h _
          exact h.elim
end Go.Proofs.YtppgdigcopkeiaaDoor
