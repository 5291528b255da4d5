/-
  The walks of impl's slices.AppendSeq and slices.Collect over what changes, and of changedBetween. Conditions: both graphs lie in memory; the package-level errors hold errors; the function that is asked answers as is told.
-/
import Derived.Test.YtgehpaojbnpbcaaGreatDoorWChangesZ
namespace Go.Proofs.YtgehpaojbnpbcaaGreatDoor
open Go Go.RowKit Go.Maps
attribute [local go_sem] Oper.semAt_some
def elPls {ss : List Sc} (pre : List (El ss)) : List (Int × Int) := pre.map fun x => plOf x.1
theorem elPls_snoc {ss : List Sc} (pre : List (El ss)) (x : El ss) : elPls (pre ++ [x]) = elPls pre ++ [plOf x.1] := by unfold elPls; rw [List.map_append]; rfl
set_option maxRecDepth 100000 in
set_option maxHeartbeats 8000000 in
theorem appendSeq_any {ss tt : List Sc} (hv : Valid ss) (hv2 : Valid tt) {st : Int × Int → Option (Int × Int)} (hin : StandsIn ss tt st) {w : World} {Bn C R1 R2 : Nat} {u : Value} (hC : CompIs w C R1 R2 u ss tt st) (hBn : w.cell? ⟨Bn, 0, none⟩ = some (.pointer (some ⟨C, 0, none⟩))) :
    Calls Tryz.prog 95 #[.slice none 0 0, .func (.func 96) #[] #[.pointer (some ⟨Bn, 0, none⟩)]] w fun e w' => ∃ v, e = .returned v ∧ w'.ownsRow w.heap.size 59 2 v (chgG ss tt st).length (placeCells (chgG ss tt st)) ∧ Below w.heap.size w w' := by
  have SQ := Lib.hid (changes_seq hv hv2 hin hC hBn)
  have HLEN : Hid ((chgG ss tt st).length ≤ 1000) := Lib.hid (by
    have h1 := chgG_length ss tt st
    have h2 := placed_bound 0 ss 6 5 hv.count.2 hv.five
    omega)
  clear hC hBn hin hv hv2
  refine (callsIn_wide (n := 7)).1 ?_
  refine callsIn_of_wp_marks Tryz.func95 rfl trivial ?_ rfl
  simp only [Tryz.ntmps95, List.size_toArray, List.length_cons, List.length_nil, Nat.reduceAdd, Nat.reduceSub, Array.replicate_succ, Array.replicate_zero, List.push_toArray, List.append_toArray, List.nil_append, List.cons_append]
  gi_wp2
  have hbA := (Below.refl w.heap.size w).alloc (Nat.le_refl _) (.cells #[.slice none 0 0] 36)
  have bL := Boxed.new w 36 (.slice none 0 0)
  obtain ⟨W1, hW1⟩ : ∃ W1, W1 = w.alloc (.cells #[.slice none 0 0] 36) := ⟨_, rfl⟩
  have hs1 : W1.heap.size = w.heap.size + 1 := by rw [hW1]; simp
  rw [← hW1] at hbA bL ⊢
  clear hW1
  refine wpIn_rangeFunc_o (gf := 96) (lb := #[.pointer (some ⟨Bn, 0, none⟩)]) rfl (enters_of Tryz.func96 (by kernel_rfl) rfl) SQ.out
    (fun h k => ⟨h.1.trans (k.1.mono (Nat.le_refl _)), fun g t vs hg ht hr => k.2 g t vs hg ht (h.2 g t vs hg ht hr)⟩)
    (fun X k o o' hk ho hc _ => ⟨⟨rfl, rfl, rfl, by simp, fun m hm => World.putObj_heap_other (by omega)⟩, fun g t vs hg ht hr => by
      have hne : g ≠ k := by
        rintro rfl
        unfold Row at hr
        rw [hr] at ho
        cases ho
        cases hc
      exact (World.putObj_heap_other hne).trans hr⟩)
    hbA (fun _ => rfl)
    (fun pre X => (∃ u, Boxed X w.heap.size 36 u ∧ X.ownsRow w.heap.size 59 2 u (elPls pre).length (placeCells (elPls pre)) ∧ True) ∧ Below w.heap.size w X)
    (fun _ _ _ => False)
    (OwnFrom.and (Own.from (holdsRow_own w.heap.size w.heap.size 36 59 2 (fun pre : List (El ss) => (elPls pre).length) (fun pre => placeCells (elPls pre)) (fun _ _ => True)) _) (ownFrom_below (Nat.le_refl _) (by omega)))
    (fun _ _ _ _ _ hs _ _ => hs)
    ⟨⟨_, bL, World.ownsRow_nil _ _ _ _, trivial⟩, hbA⟩
    (fun x a' X => ∃ Bp, Row X Bp 59 [.int .i64 (x.1.1 : Int), .int .i64 (x.1.2.1 : Int)] ∧
      a' = { tmps := #[.slice none 0 0, .func (.func 96) #[] #[.pointer (some ⟨Bn, 0, none⟩)], .pointer (some ⟨w.heap.size, 0, none⟩), undef, .slice none 0 0, .pointer (some ⟨Bp, 0, none⟩), .func (.func 96) #[] #[.pointer (some ⟨Bn, 0, none⟩)], .agg #[.int .i64 (x.1.1 : Int), .int .i64 (x.1.2.1 : Int)], undef, undef, undef, undef, undef], defers := [] })
    (fun x a' _ X Y row hs hg hr => by obtain ⟨Bp, h1, h3⟩ := hs; exact ⟨Bp, h1.kept_cells hg (fun r e => (hr r e).2), h3⟩)
    ?assign ?body ?done ?stop
  case assign =>
    rintro l' pre x X K hi hK
    gi_wp2
    have ha : Below X.heap.size X (X.alloc (.cells #[.int .i64 (x.1.1 : Int), .int .i64 (x.1.2.1 : Int)] 59)) := (Below.refl _ _).alloc (Nat.le_refl _) _
    obtain ⟨⟨u, hB, hrow, -⟩, hbw⟩ := hi
    refine hK _ _ ((KeepsOthers.alloc _ _).from _) ⟨ha.mono hbw.size, fun g t vs _ _ hr => hr.alloc _⟩ ⟨⟨u, hB.alloc _, hrow.alloc _, trivial⟩, hbw.trans (ha.mono hbw.size)⟩ ⟨X.heap.size, Row.new X [.int .i64 (x.1.1 : Int), .int .i64 (x.1.2.1 : Int)] 59, rfl⟩
  case body =>
    rintro l' pre x a' X hl' _ ⟨⟨u, hB, hrow, -⟩, hbw⟩ ⟨Bp, hp, rfl⟩ hlen
    obtain ⟨⟨i, j, it⟩, hmem⟩ := x
    dsimp only at hp ⊢
    have hlen' : (elPls pre).length < 1000000 := by unfold elPls; rw [List.length_map]; exact hlen
    have p0 := hp.cell (i := 0) (by rfl)
    have p1 := hp.cell (i := 1) (by rfl)
    have hlt := hB.lt
    have HE : Hid (elPls (pre ++ [(⟨(i, j, it), hmem⟩ : El ss)]) = elPls pre ++ [((i : Int), (j : Int))]) := Lib.hid (elPls_snoc pre _)
    obtain ⟨v', w3, hrun, hown', hgrow⟩ := append_place0 hrow (i : Int) (j : Int) hlen' hbw.size 36
    have hown2 := hown'
    obtain ⟨g', cap', rfl⟩ := ownsRow_succ hown'
    simp [go_sem] at hrun
    obtain ⟨hv1, hv2, hr2, hk2, hb2⟩ := hB.appended (by decide) hrow hbw.size (Nat.le_refl _) hown2 hgrow
    have HKP : Hid (∀ (g : Nat) (t : TypeId) (vs : List Value), W1.heap.size + 2 ≤ g → t ≠ 59 → Row X g t vs → Row (w3.setCell ⟨w.heap.size, 0, none⟩ (.slice (some ⟨g', 0, none⟩) ((elPls pre).length + 1) cap')) g t vs) := Lib.hid (fun g t vs hg ht hr =>
      (((hr.alloc (.cells #[.int .i64 (i : Int), .int .i64 (j : Int)] 59)).grown hgrow (ownsRow_ne2 hr ht hrow)).other (a := ⟨w.heap.size, 0, none⟩) (by show w.heap.size ≠ g; omega) _))
    have c0 := hB.cell
    have c0' := (hB.alloc (.cells #[.int .i64 (i : Int), .int .i64 (j : Int)] 59)).cell
    have c1 := hv1.cell
    have f1 := hv1.frozen
    have HP := Lib.hid (And.intro hv2 (And.intro hr2 (And.intro hk2 hb2)))
    have HBW := Lib.hid hbw
    clear hB hrow hbw hown' hown2 hgrow hv1 hv2 hr2 hk2 hb2 hp
    gi_wp2
    refine ⟨HP.out.2.2.1.from _, ⟨HP.out.2.2.2, HKP.out⟩, ⟨_, HP.out.1, ?_, trivial⟩, HBW.out.trans HP.out.2.2.2⟩
    rw [HE.out, List.length_append, placeCells_snoc]
    exact HP.out.2.1
  case done =>
    rintro D xs X hD hS ⟨⟨u, hB, hrow, -⟩, hbw⟩ hK
    have cB := hB.cell
    have HS2 : Hid (elPls xs = chgG ss tt st) := Lib.hid hS
    clear hS
    gi_wp2
    refine ⟨by simp, .inl ⟨_, _, rfl, run_takeDeferred hK, ?_⟩⟩
    have hrow2 := ownsRow_putObj hrow (.deferred none) hK rfl
    rw [HS2.out] at hrow2
    have hend : Below w.heap.size w (X.putObj D (.deferred none)) := hbw.trans ⟨rfl, rfl, rfl, by simp, fun m hm => World.putObj_heap_other (by omega)⟩
    exact ⟨_, results_tmp rfl _ _ _, u, rfl, hrow2, hend⟩
  case stop =>
    rintro D c pre X _ _ h _
    exact h.elim
set_option maxRecDepth 100000 in
theorem collect_any {ss tt : List Sc} (hv : Valid ss) (hv2 : Valid tt) {st : Int × Int → Option (Int × Int)} (hin : StandsIn ss tt st) {w : World} {Bn C R1 R2 : Nat} {u : Value} (hC : CompIs w C R1 R2 u ss tt st) (hBn : w.cell? ⟨Bn, 0, none⟩ = some (.pointer (some ⟨C, 0, none⟩))) :
    Calls Tryz.prog 63 #[.func (.func 96) #[] #[.pointer (some ⟨Bn, 0, none⟩)]] w fun e w' => ∃ v, e = .returned v ∧ w'.ownsRow w.heap.size 59 2 v (chgG ss tt st).length (placeCells (chgG ss tt st)) ∧ Below w.heap.size w w' := by
  have A := Lib.hid (appendSeq_any hv hv2 hin hC hBn)
  clear hC hBn hin hv hv2
  go_enter Tryz.func63, Tryz.ntmps63
  go_wp2_with fail
  refine A.out.mono ?_
  rintro e w1 ⟨v, rfl, hown, hb⟩
  have HO := Lib.hid (And.intro hown hb)
  clear hown hb
  go_wp2
  go_ret
  exact ⟨v, rfl, HO.out.1, HO.out.2⟩
/-- What changedBetween answers. -/
def BetGot (l : List (Int × Int)) (w : World) (e : Ending) (w' : World) : Prop := ∃ v, e = .returned (.tuple #[v, .bool true]) ∧ w'.ownsRow w.heap.size 59 2 v l.length (placeCells l) ∧ Below w.heap.size w w'
set_option maxRecDepth 100000 in
set_option maxHeartbeats 4000000 in
theorem between_any (ss tt : List Sc) (hv : Valid ss) (hv2 : Valid tt) (hF : Fair ss) (hF2 : Fair tt) (oa ob : Option Addr) (cap cbp : Nat) (u : Value) (st : Int × Int → Option (Int × Int)) (hin : StandsIn ss tt st) (w : World) (hc : HoldsScopes w oa ss) (hc2 : HoldsScopes w ob tt) (hE : TreeErrs w) (hst : StandsOk w u st) :
    Calls Tryz.prog 36 #[.agg #[.slice oa ss.length cap], .agg #[.slice ob tt.length cbp], u] w (BetGot (chgG ss tt st) w) := by
  have hb0 : Below w.heap.size w ((w.alloc (.cells #[.slice oa ss.length cap] 28)).alloc (.cells #[.slice ob tt.length cbp] 28)) := ((Below.refl _ _).alloc (Nat.le_refl _) _).alloc (by simp) _
  have R1 := (Row.new w [.slice oa ss.length cap] 28).alloc (.cells #[.slice ob tt.length cbp] 28)
  have R2 := Row.new (w.alloc (.cells #[.slice oa ss.length cap] 28)) [.slice ob tt.length cbp] 28
  rw [World.size_alloc] at R2
  have C1 := Lib.hid (resolutionOf_any ss hF oa cap _ (hc.below hb0 (Nat.le_refl _)) (hE.below hb0 hE.size))
  have HB0 := Lib.hid hb0
  have HR2 := Lib.hid R2
  have HALL := Lib.hid (And.intro hv (And.intro hv2 (And.intro hF2 (And.intro hin (And.intro hc2 (And.intro hE hst))))))
  have g1 := R1.cell (i := 0) (by rfl)
  obtain ⟨f, lb, rfl, -, -⟩ := hst
  clear hv hv2 hF hF2 hin hc hc2 hE hb0 R1 R2
  go_enter Tryz.func36, Tryz.ntmps36
  go_wp2_with fail
  refine C1.out.mono ?_
  rintro e w1 (⟨hn, -, -⟩ | ⟨-, RR, T, M1, M2, MR, v, ds, le, rfl, hb1, hR⟩)
  · exact absurd HALL.out.1 hn
  · have HB1 := Lib.hid (HB0.out.trans (hb1.mono HB0.out.size))
    have HRI : Hid (ResIs w1 RR ss) := Lib.hid ⟨_, _, _, _, _, _, _, _, hR⟩
    have g2 := (HR2.out.below hb1 HR2.out.lt).cell (i := 0) (by rfl)
    have C2 := Lib.hid (resolutionOf_any tt HALL.out.2.2.1 ob cbp w1 (HALL.out.2.2.2.2.1.below HB1.out (Nat.le_refl _)) (HALL.out.2.2.2.2.2.1.below HB1.out HALL.out.2.2.2.2.2.1.size))
    clear hb1 hR g1
    go_wp2_with fail
    refine C2.out.mono ?_
    rintro e w2 (⟨hn, -, -⟩ | ⟨-, RS, T2, N1, N2, MS, v2, ds2, le2, rfl, hb2, hR2⟩)
    · exact absurd HALL.out.2.1 hn
    · have HB2 := Lib.hid (HB1.out.trans (hb2.mono HB1.out.size))
      have hbC := (Below.refl w2.heap.size w2).alloc (Nat.le_refl _) (.cells #[.pointer (some ⟨RR, 0, none⟩), .pointer (some ⟨RS, 0, none⟩), .func (.func f) #[] lb] 107)
      have HCI : Hid (CompIs (w2.alloc (.cells #[.pointer (some ⟨RR, 0, none⟩), .pointer (some ⟨RS, 0, none⟩), .func (.func f) #[] lb] 107)) w2.heap.size RR RS (.func (.func f) #[] lb) ss tt st) := Lib.hid
        ⟨Row.new w2 [.pointer (some ⟨RR, 0, none⟩), .pointer (some ⟨RS, 0, none⟩), .func (.func f) #[] lb] 107, (HRI.out.below hb2).below hbC, ResIs.below ⟨_, _, _, _, _, _, _, _, hR2⟩ hbC, HALL.out.2.2.2.2.2.2.below (HB2.out.trans (hbC.mono HB2.out.size))⟩
      have HB3 := Lib.hid (HB2.out.trans (hbC.mono HB2.out.size))
      clear hb2 hR2 hbC g2
      go_wp2_with fail
      generalize w2.alloc (.cells #[.pointer (some ⟨RR, 0, none⟩), .pointer (some ⟨RS, 0, none⟩), .func (.func f) #[] lb] 107) = w3 at *
      refine (changes_any w2.heap.size w3).mono ?_
      rintro e w4 ⟨rfl, rfl⟩
      have hbN := (Below.refl w3.heap.size w3).alloc (Nat.le_refl _) (.cells #[.pointer (some ⟨w2.heap.size, 0, none⟩)] 105)
      have RN := Row.new w3 [.pointer (some ⟨w2.heap.size, 0, none⟩)] 105
      have K := Lib.hid (collect_any HALL.out.1 HALL.out.2.1 HALL.out.2.2.2.1 (HCI.out.below hbN) (RN.cell (i := 0) (by rfl)))
      have HB4 := Lib.hid (HB3.out.trans (hbN.mono HB3.out.size))
      clear hbN RN
      go_wp2_with fail
      refine K.out.mono ?_
      rintro e w5 ⟨v5, rfl, hown, hb5⟩
      have HO := Lib.hid (And.intro (hown.mono HB4.out.size) (HB4.out.trans (hb5.mono HB4.out.size)))
      clear hown hb5
      go_wp2
      go_ret2
      exact ⟨v5, rfl, HO.out.1, HO.out.2⟩
end Go.Proofs.YtgehpaojbnpbcaaGreatDoor
