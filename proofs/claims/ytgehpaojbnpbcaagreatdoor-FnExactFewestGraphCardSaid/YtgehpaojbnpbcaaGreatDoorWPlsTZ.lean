/-
  The walk of impl's (*tree).placesOf. Condition: the tree lies in memory. (genplst.py writes this text.)
-/
import Derived.Test.YtgehpaojbnpbcaaGreatDoorJEZ
namespace Go.Proofs.YtgehpaojbnpbcaaGreatDoor
open Go Go.RowKit Go.Maps
attribute [local go_sem] Oper.semAt_some
set_option maxRecDepth 100000 in
set_option maxHeartbeats 4000000 in
theorem treePls_any {ss : List Sc} (hv : Valid ss) {w : World} {B T M1 M2 : Nat} {v : Value} {ds : List Nd} (hT : TreeIs w B T M1 M2 v ds ss) (kind : Int) :
    Calls Tryz.prog 74 #[.pointer (some ⟨T, 0, none⟩), .int .i64 kind] w fun e w' => ∃ u, e = .returned u ∧ w'.ownsRow w.heap.size 59 2 u (plsP ss kind).length (placeCells (plsP ss kind)) ∧ Below w.heap.size w w' := by
  refine (callsIn_wide (n := 6)).1 ?_
  refine callsIn_of_wp_marks Tryz.func74 rfl trivial ?_ rfl
  simp only [Tryz.ntmps74, List.size_toArray, List.length_cons, List.length_nil, Nat.reduceAdd, Nat.reduceSub, Array.replicate_succ, Array.replicate_zero, List.push_toArray, List.append_toArray, List.nil_append, List.cons_append]
  gi_wp2_with fail
  refine ⟨trivial, ?_⟩
  gi_at_call 93
  refine ((callsIn_wide (n := 5)).2 (all_any _ _)).mono ?_
  rintro e w2 ⟨rfl, rfl⟩
  gi_wp2
  have hS : w.heap.size + 1 = (w.alloc (.cells #[.int .i64 kind] 3)).heap.size := by simp
  have HB := Lib.hid ((Below.refl w.heap.size w).alloc (Nat.le_refl _) (.cells #[.int .i64 kind] 3))
  have R1 := Lib.hid (Row.new w [.int .i64 kind] 3)
  have HT := Lib.hid (hT.below HB.out)
  generalize w.alloc (.cells #[.int .i64 kind] 3) = w1 at *
  rw [hS]
  have k1 := R1.out.cell (i := 0) (v := .int .i64 kind) (by rfl)
  clear hT hS
  have hBx : Below w1.heap.size w1 ((w1.alloc (.cells #[.slice none 0 0] 36)).alloc (.cells #[.pointer (some ⟨T, 0, none⟩)] 124)) := ((Below.refl _ _).alloc (Nat.le_refl _) _).alloc (by simp) _
  have bL := (Boxed.new w1 36 (.slice none 0 0)).alloc (.cells #[.pointer (some ⟨T, 0, none⟩)] 124)
  have bN := Boxed.new (w1.alloc (.cells #[.slice none 0 0] 36)) 124 (.pointer (some ⟨T, 0, none⟩))
  rw [World.size_alloc] at bN
  have hsm := hv.small
  refine wpIn_rangeFunc_ownH rfl (by omega) (gf := 115) (lb := #[.pointer (some ⟨w1.heap.size + 1, 0, none⟩)]) rfl trivial (enters_of Tryz.func115 (by kernel_rfl) rfl)
    (all_stops 5 (by omega) (w1.heap.size + 1) _ T M1 M2 v ds ss w1 _ HT.out.tree HT.out.hold (HT.out.ne hv) hsm.len hsm.items (.of_below hBx) bN.cell) CellsKept.trans (fun W l o o' _ h1 h2 h3 => cellsKept_b (w := w1) W l o o' (by simp at *; omega) h1 h2 h3) (Below.refl _ _) (fun _ => rfl)
    (fun pre W => (∃ u, Boxed W w1.heap.size 36 u ∧ W.ownsRow w1.heap.size 59 2 u (elPl kind pre).length (placeCells (elPl kind pre)) ∧ True) ∧ (CellsKept w1.heap.size w1 W ∧ Below w1.heap.size w1 W))
    (fun _ _ _ => False)
    (OwnFrom.and (Own.from (holdsRow_own w1.heap.size w1.heap.size 36 59 2 (fun pre : List (El ss) => (elPl kind pre).length) (fun pre => placeCells (elPl kind pre)) (fun _ _ => True)) _) (OwnFrom.and (cellsKept_own w1) (ownFrom_below (Nat.le_refl _) (by simp; omega))))
    (fun _ _ _ _ _ hs _ _ => hs)
    ⟨⟨_, bL, World.ownsRow_nil _ _ _ _, trivial⟩, .of_below hBx, hBx⟩
    (fun x a' W => ∃ Bp Bx, Row W Bp 59 [.int .i64 (x.1.1 : Int), .int .i64 (x.1.2.1 : Int)] ∧ Row W Bx 137 [.int .i64 x.1.2.2.kind, .string x.1.2.2.name, .int .i64 x.1.2.2.scope] ∧ w1.heap.size < Bp ∧ w1.heap.size < Bx ∧
      a' = { tmps := #[.pointer (some ⟨T, 0, none⟩), .int .i64 kind, undef, .pointer (some ⟨w.heap.size, 0, none⟩), .slice none 0 0, .pointer (some ⟨w1.heap.size, 0, none⟩), .pointer (some ⟨Bp, 0, none⟩), .pointer (some ⟨Bx, 0, none⟩), .pointer (some ⟨T, 0, none⟩), .func (.func 115) #[] #[.pointer (some ⟨w1.heap.size + 1, 0, none⟩)], .agg #[.int .i64 (x.1.1 : Int), .int .i64 (x.1.2.1 : Int)], .agg #[.int .i64 x.1.2.2.kind, .string x.1.2.2.name, .int .i64 x.1.2.2.scope], undef, undef, undef, undef, undef, undef, undef, undef, undef], defers := [] })
    (fun x a' _ X Y row hs hg hr => by obtain ⟨Bp, Bx, h1, h2, h3, h4, h5⟩ := hs; exact ⟨Bp, Bx, h1.kept_cells hg (fun r e => (hr r e).2), h2.kept_cells hg (fun r e => (hr r e).2), h3, h4, h5⟩)
    ?assign ?body ?done ?stop
  case assign =>
    rintro l pre x W K hi hK
    dsimp only [elArgs]
    gi_wp2
    have ha : Below W.heap.size W ((W.alloc (.cells #[.int .i64 (x.1.1 : Int), .int .i64 (x.1.2.1 : Int)] 59)).alloc (.cells #[.int .i64 x.1.2.2.kind, .string x.1.2.2.name, .int .i64 x.1.2.2.scope] 137)) := ((Below.refl _ _).alloc (Nat.le_refl _) _).alloc (by simp) _
    obtain ⟨⟨u, hB, hrow, -⟩, hck, hbw⟩ := hi
    have hlt := hB.lt
    refine hK _ _ (((KeepsOthers.alloc _ _).trans (KeepsOthers.alloc _ _)).from _) ((CellsKept.of_below ha).mono hbw.size) ⟨⟨u, (hB.alloc _).alloc _, (hrow.alloc _).alloc _, trivial⟩, hck.trans ((CellsKept.of_below ha).mono hbw.size), hbw.trans (ha.mono hbw.size)⟩ ⟨W.heap.size, W.heap.size + 1, ?_, ?_, hlt, by omega, rfl⟩
    · exact (Row.new W [.int .i64 (x.1.1 : Int), .int .i64 (x.1.2.1 : Int)] 59).alloc _
    · have := Row.new (W.alloc (.cells #[.int .i64 (x.1.1 : Int), .int .i64 (x.1.2.1 : Int)] 59)) [.int .i64 x.1.2.2.kind, .string x.1.2.2.name, .int .i64 x.1.2.2.scope] 137
      rw [World.size_alloc] at this
      exact this
  case body =>
    rintro l pre x a' W hl _ ⟨⟨u, hB, hrow, -⟩, hck, hbw⟩ ⟨Bp, Bx, hp, hx, hlp, hlx, rfl⟩ hlen
    obtain ⟨⟨i, j, it⟩, hmem⟩ := x
    have HQ : Hid (elPl kind (pre ++ [(⟨(i, j, it), hmem⟩ : El ss)]) = elPl kind pre ++ if it.kind = kind then [((i : Int), (j : Int))] else []) := Lib.hid (by unfold elPl; rw [List.map_append]; exact plsOf_snoc kind _ _)
    dsimp only at hp hx ⊢
    have hlen' : (elPl kind pre).length < 1000000 := by
      have h1 := plsOf_length kind (pre.map Subtype.val)
      have h2 := placed_bound 0 ss 6 5 hv.count.2 hv.five
      rw [List.length_map] at h1
      unfold elPl
      omega
    have p0 := hp.cell (i := 0) (by rfl)
    have p1 := hp.cell (i := 1) (by rfl)
    have x0 := hx.cell (i := 0) (by rfl)
    have ck := hck.cell R1.out.lt k1
    have HCB := Lib.hid (And.intro hck hbw)
    have hlt := hB.lt
    have HSM : Hid (w1.heap.size ≤ W.heap.size) := Lib.hid hbw.size
    by_cases he : it.kind = kind
    · have hq : (it.kind == kind) = true := by simpa using he
      have HE : Hid (elPl kind (pre ++ [(⟨(i, j, it), hmem⟩ : El ss)]) = elPl kind pre ++ [((i : Int), (j : Int))]) := Lib.hid (by rw [HQ.out, if_pos he])
      obtain ⟨v', w3, hrun, hown', hgrow⟩ := append_place0 hrow (i : Int) (j : Int) hlen' hbw.size 36
      have hown2 := hown'
      obtain ⟨g', cap', rfl⟩ := ownsRow_succ hown'
      simp [go_sem] at hrun
      obtain ⟨hv1, hv2, hr2, hk2, hb2⟩ := hB.appended (by decide) hrow hbw.size (Nat.le_refl _) hown2 hgrow
      have c0 := hB.cell
      have c0' := (hB.alloc (.cells #[.int .i64 (i : Int), .int .i64 (j : Int)] 59)).cell
      have c1 := hv1.cell
      have f1 := hv1.frozen
      have HP := Lib.hid (And.intro hv2 (And.intro hr2 (And.intro hk2 hb2)))
      clear hB hrow hck hbw hown' hown2 hgrow hv1 hv2 hr2 hk2 hb2 he hp hx
      gi_wp2
      refine ⟨HP.out.2.2.1.from _, .of_below HP.out.2.2.2, ⟨_, HP.out.1, ?_, trivial⟩, HCB.out.1.trans (.of_below HP.out.2.2.2), HCB.out.2.trans HP.out.2.2.2⟩
      rw [HE.out, List.length_append, placeCells_snoc]
      exact HP.out.2.1
    · have hq : (it.kind == kind) = false := by simpa using he
      have HE : Hid (elPl kind (pre ++ [(⟨(i, j, it), hmem⟩ : El ss)]) = elPl kind pre) := Lib.hid (by rw [HQ.out, if_neg he, List.append_nil])
      have HP := Lib.hid (And.intro hB hrow)
      clear hB hrow hck hbw he hp hx
      gi_wp2
      refine ⟨KeepsFrom.refl _ _, CellsKept.refl _ _, ⟨u, HP.out.1, ?_, trivial⟩, HCB.out.1, HCB.out.2⟩
      rw [HE.out]
      exact HP.out.2
  case done =>
    rintro D xs W hD hS ⟨⟨u, hB, hrow, -⟩, hck, hbw⟩ hK
    have cB := hB.cell
    have HS2 : Hid (elPl kind xs = plsP ss kind) := Lib.hid (by unfold elPl plsP; rw [hS])
    clear hS
    gi_wp2
    refine ⟨by simp, .inl ⟨_, _, rfl, run_takeDeferred hK, ?_⟩⟩
    have hrow2 := ownsRow_lower (ownsRow_putObj hrow (.deferred none) hK rfl) (show w.heap.size ≤ w1.heap.size from HB.out.size)
    rw [HS2.out] at hrow2
    have hend : Below w.heap.size w (W.putObj D (.deferred none)) := HB.out.trans ((hbw.mono HB.out.size).trans (belowK_b (w := w) (Nat.le_refl _) W D _ _ (by have := HB.out.size; simp at hD; omega) hK rfl rfl))
    exact ⟨_, results_tmp rfl _ _ _, u, rfl, hrow2, hend⟩
  case stop =>
    rintro D c pre W _ _ h _
    exact h.elim
end Go.Proofs.YtgehpaojbnpbcaaGreatDoor
