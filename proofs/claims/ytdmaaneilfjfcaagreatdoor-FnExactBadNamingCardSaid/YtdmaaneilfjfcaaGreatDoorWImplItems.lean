/-
  The walks of impl's ItemsIn and IsSound. Conditions: the argument's memory holds the graph; the package-level errors hold errors.
-/
import Derived.Test.YtdmaaneilfjfcaaGreatDoorJE
namespace Go.Proofs.YtdmaaneilfjfcaaGreatDoor
open Go Go.RowKit Go.Maps
attribute [local go_sem] Oper.semAt_some
/-- The places of the items in a state among some items, in order. -/
def stsOf (ss : List Sc) (z : Int) (l : List (Nat × Nat × It)) : List (Int × Int) := (l.filter fun q => stateIt ss q == z).map fun q => ((q.1 : Int), (q.2.1 : Int))
theorem stsOf_snoc (ss : List Sc) (z : Int) (l : List (Nat × Nat × It)) (q : Nat × Nat × It) : stsOf ss z (l ++ [q]) = stsOf ss z l ++ if stateIt ss q = z then [((q.1 : Int), (q.2.1 : Int))] else [] := by
  unfold stsOf
  rw [List.filter_append, List.map_append]
  congr 1
  by_cases h : stateIt ss q = z
  · rw [if_pos h]; simp [h]
  · rw [if_neg h]; simp [h]
theorem stsOf_length (ss : List Sc) (z : Int) (l : List (Nat × Nat × It)) : (stsOf ss z l).length ≤ l.length := by
  unfold stsOf
  rw [List.length_map]
  exact List.length_filter_le _ _
def stsP (ss : List Sc) (z : Int) : List (Int × Int) := stsOf ss z (placed 0 ss)
def stOk (ss : List Sc) (z : Int) : Prop := Valid ss ∧ inB z 1 4 = true
theorem st_in (z : Int) : inB z 1 4 = true ↔ 1 ≤ z ∧ z ≤ 4 := by simp [inB]
def elSt {ss : List Sc} (z : Int) (pre : List (El ss)) : List (Int × Int) := stsOf ss z (pre.map Subtype.val)
set_option maxRecDepth 100000 in
set_option maxHeartbeats 8000000 in
theorem implItemsIn_any (ss : List Sc) (hF : Fair ss) (oa : Option Addr) (cap : Nat) (z : Int) (w : World) (hc : HoldsScopes w oa ss) (hE : TreeErrs w) :
    Calls Tryz.prog 24 #[.agg #[.slice oa ss.length cap], .int .i64 z] w (PlGot (stOk ss z) (stsP ss z) w) := by
  have hb0 := ((Below.refl w.heap.size w).alloc (Nat.le_refl _) (.cells #[.slice oa ss.length cap] 25)).alloc (by simp) (.cells #[.int .i64 z] 3)
  have C := Lib.hid ((callsIn_wide (n := 5)).2 (resolutionOf_any ss hF oa cap _ (hc.below hb0 (Nat.le_refl _)) (hE.below hb0 hE.size)))
  have HB0 := Lib.hid hb0
  have hR0 := Row.new (w.alloc (.cells #[.slice oa ss.length cap] 25)) [.int .i64 z] 3
  rw [World.size_alloc] at hR0
  have R0 := Lib.hid hR0
  clear hF hc hE hb0 hR0
  refine (callsIn_wide (n := 6)).1 ?_
  refine callsIn_of_wp_marks Tryz.func24 rfl trivial ?_ rfl
  simp only [Tryz.ntmps24, List.size_toArray, List.length_cons, List.length_nil, Nat.reduceAdd, Nat.reduceSub, Array.replicate_succ, Array.replicate_zero, List.push_toArray, List.append_toArray, List.nil_append, List.cons_append]
  gi_wp2_with fail
  refine ⟨trivial, ?_⟩
  gi_at_call 63
  refine C.out.mono ?_
  rintro e w1 (⟨hv, ⟨tp, p, rfl⟩, hb⟩ | ⟨hv, R, T, M1, M2, MR, v, ds, le, rfl, hb, hR⟩)
  · have HN : Hid (¬ stOk ss z) := Lib.hid (fun h => hv h.1)
    have HB := Lib.hid (HB0.out.trans (hb.mono HB0.out.size))
    clear hv hb
    gi_wp2
    exact ⟨_, results_tmp2 rfl _ _ _, .inl ⟨HN.out, rfl, HB.out.alloc HB.out.size _⟩⟩
  · have HB := Lib.hid (HB0.out.trans (hb.mono HB0.out.size))
    have R1 := Lib.hid (R0.out.below hb R0.out.lt)
    have k1 := R1.out.cell (i := 0) (by rfl)
    have k1' := (R1.out.alloc (.cells #[.pointer (some ⟨R, 0, none⟩)] 97)).cell (i := 0) (by rfl)
    have HV := Lib.hid hv
    have HR := Lib.hid hR
    clear hv hb hR
    by_cases hlo : z < 1
    · have HN : Hid (¬ stOk ss z) := Lib.hid (fun h => by have := ((st_in z).1 h.2).1; omega)
      gi_wp2
      exact ⟨_, results_tmp2 rfl _ _ _, .inl ⟨HN.out, rfl, HB.out.alloc HB.out.size _⟩⟩
    · by_cases hhi : 4 < z
      · have HN : Hid (¬ stOk ss z) := Lib.hid (fun h => by have := ((st_in z).1 h.2).2; omega)
        gi_wp2
        exact ⟨_, results_tmp2 rfl _ _ _, .inl ⟨HN.out, rfl, HB.out.alloc HB.out.size _⟩⟩
      · have HK : Hid (stOk ss z) := Lib.hid ⟨HV.out, (st_in z).2 ⟨by omega, by omega⟩⟩
        have r0 := ((HR.out.box.alloc (.cells #[.pointer (some ⟨R, 0, none⟩)] 97)).alloc (.cells #[.slice none 0 0] 28)).cell (i := 0) (by rfl)
        gi_wp2_with fail
        refine ⟨trivial, ?_⟩
        gi_at_call 64
        refine ((callsIn_wide (n := 5)).2 (all_any _ _)).mono ?_
        rintro e w2 ⟨rfl, rfl⟩
        gi_wp2
        have hBx : Below w1.heap.size w1 (((w1.alloc (.cells #[.pointer (some ⟨R, 0, none⟩)] 97)).alloc (.cells #[.slice none 0 0] 28)).alloc (.cells #[.pointer (some ⟨T, 0, none⟩)] 89)) := (((Below.refl _ _).alloc (Nat.le_refl _) _).alloc (by simp) _).alloc (by simp; omega) _
        have rr := ((Row.new w1 [.pointer (some ⟨R, 0, none⟩)] 97).alloc (.cells #[.slice none 0 0] 28)).alloc (.cells #[.pointer (some ⟨T, 0, none⟩)] 89)
        have bL := (Boxed.new (w1.alloc (.cells #[.pointer (some ⟨R, 0, none⟩)] 97)) 28 (.slice none 0 0)).alloc (.cells #[.pointer (some ⟨T, 0, none⟩)] 89)
        have bN := Boxed.new ((w1.alloc (.cells #[.pointer (some ⟨R, 0, none⟩)] 97)).alloc (.cells #[.slice none 0 0] 28)) 89 (.pointer (some ⟨T, 0, none⟩))
        rw [World.size_alloc] at bL
        rw [World.size_alloc, World.size_alloc] at bN
        have hsm := HV.out.small
        clear k1' r0
        refine wpIn_rangeFunc_ownH rfl (by omega) (gf := 111) (lb := #[.pointer (some ⟨w1.heap.size + 1 + 1, 0, none⟩)]) rfl trivial (enters_of Tryz.func111 (by kernel_rfl) rfl)
          (all_stops 5 (by omega) (w1.heap.size + 1 + 1) _ T M1 M2 v ds ss w1 _ HR.out.tree.tree HR.out.tree.hold (HR.out.tree.ne HV.out) hsm.len hsm.items (.of_below hBx) bN.cell) CellsKept.trans (fun W l o o' _ h1 h2 h3 => cellsKept_b (w := w1) W l o o' (by simp at *; omega) h1 h2 h3) (Below.refl _ _) (fun _ => rfl)
          (fun pre W => (∃ u, Boxed W (w1.heap.size + 1) 28 u ∧ W.ownsRow (w1.heap.size + 1) 32 2 u (elSt z pre).length (placeCells (elSt z pre)) ∧ True) ∧ (CellsKept w1.heap.size w1 W ∧ (Below w1.heap.size w1 W ∧ Row W w1.heap.size 97 [.pointer (some ⟨R, 0, none⟩)])))
          (fun _ _ _ => False)
          (OwnFrom.and (Own.from (holdsRow_own (w1.heap.size + 1) (w1.heap.size + 1) 28 32 2 (fun pre : List (El ss) => (elSt z pre).length) (fun pre => placeCells (elSt z pre)) (fun _ _ => True)) _) (OwnFrom.and (cellsKept_own w1) (OwnFrom.and (ownFrom_below (Nat.le_refl _) (by simp; omega)) (row_own _ _ _ fun _ => _))))
          (fun _ _ _ _ _ hs _ _ => hs)
          ⟨⟨_, bL, World.ownsRow_nil _ _ _ _, trivial⟩, .of_below hBx, hBx, rr⟩
          (fun x a' W => ∃ Bp Bx, Row W Bp 32 [.int .i64 (x.1.1 : Int), .int .i64 (x.1.2.1 : Int)] ∧ Row W Bx 40 [.int .i64 x.1.2.2.kind, .string x.1.2.2.name, .int .i64 x.1.2.2.scope] ∧
            a' = { tmps := #[.agg #[.slice oa ss.length cap], .int .i64 z, .pointer (some ⟨w.heap.size, 0, none⟩), .pointer (some ⟨w.heap.size + 1, 0, none⟩), .slice none 0 0, .bool false, .pointer (some ⟨w1.heap.size, 0, none⟩), .nilIface, .pointer (some ⟨w1.heap.size + 1, 0, none⟩), .pointer (some ⟨Bp, 0, none⟩), .pointer (some ⟨Bx, 0, none⟩), .tuple #[.pointer (some ⟨R, 0, none⟩), .nilIface], .agg #[.slice oa ss.length cap], .tuple #[.pointer (some ⟨R, 0, none⟩), .nilIface], .pointer (some ⟨R, 0, none⟩), .nilIface, .nilIface, .bool false, .bool false, .int .i64 z, .bool (decide (z < 1)), .bool (decide (z < 1)), .bool (decide (z < 1)), .int .i64 z, .bool (decide (4 < z)), .bool (decide (z < 1) || decide (4 < z)), .pointer (some ⟨R, 0, none⟩), .pointer (some ⟨R, 0, none⟩), .pointer (some ⟨R, 0, none⟩), .pointer (some ⟨T, 0, none⟩), .func (.func 111) #[] #[.pointer (some ⟨w1.heap.size + 1 + 1, 0, none⟩)], .agg #[.int .i64 (x.1.1 : Int), .int .i64 (x.1.2.1 : Int)], .agg #[.int .i64 x.1.2.2.kind, .string x.1.2.2.name, .int .i64 x.1.2.2.scope], undef, undef, undef, undef, undef, undef, undef, undef, undef, undef, undef], defers := [] })
          (fun x a' _ X Y row hs hg hr => by obtain ⟨Bp, Bx, h1, h2, h3⟩ := hs; exact ⟨Bp, Bx, h1.kept_cells hg (fun r e => (hr r e).2), h2.kept_cells hg (fun r e => (hr r e).2), h3⟩)
          ?assign ?body ?done ?stop
        case assign =>
          rintro l pre x W K hi hK
          dsimp only [elArgs]
          gi_wp2
          have ha : Below W.heap.size W ((W.alloc (.cells #[.int .i64 (x.1.1 : Int), .int .i64 (x.1.2.1 : Int)] 32)).alloc (.cells #[.int .i64 x.1.2.2.kind, .string x.1.2.2.name, .int .i64 x.1.2.2.scope] 40)) := ((Below.refl _ _).alloc (Nat.le_refl _) _).alloc (by simp) _
          obtain ⟨⟨u, hB, hrow, -⟩, hck, hbw, hrr⟩ := hi
          refine hK _ _ (((KeepsOthers.alloc _ _).trans (KeepsOthers.alloc _ _)).from _) ((CellsKept.of_below ha).mono hbw.size) ⟨⟨u, (hB.alloc _).alloc _, (hrow.alloc _).alloc _, trivial⟩, hck.trans ((CellsKept.of_below ha).mono hbw.size), hbw.trans (ha.mono hbw.size), (hrr.alloc _).alloc _⟩ ⟨W.heap.size, W.heap.size + 1, ?_, ?_, rfl⟩
          · exact (Row.new W [.int .i64 (x.1.1 : Int), .int .i64 (x.1.2.1 : Int)] 32).alloc _
          · have := Row.new (W.alloc (.cells #[.int .i64 (x.1.1 : Int), .int .i64 (x.1.2.1 : Int)] 32)) [.int .i64 x.1.2.2.kind, .string x.1.2.2.name, .int .i64 x.1.2.2.scope] 40
            rw [World.size_alloc] at this
            exact this
        case body =>
          rintro l pre x a' W hl _ ⟨⟨u, hB, hrow, -⟩, hck, hbw, hrr⟩ ⟨Bp, Bx, hp, hx, rfl⟩ hlen
          obtain ⟨⟨i, j, it⟩, hmem⟩ := x
          have HQ : Hid (elSt z (pre ++ [(⟨(i, j, it), hmem⟩ : El ss)]) = elSt z pre ++ if stateIt ss (i, j, it) = z then [((i : Int), (j : Int))] else []) := Lib.hid (by unfold elSt; rw [List.map_append]; exact stsOf_snoc ss z _ _)
          dsimp only at hp hx ⊢
          have hlen' : (elSt z pre).length < 1000000 := by
            have h1 := stsOf_length ss z (pre.map Subtype.val)
            have h2 := placed_bound 0 ss 6 5 HV.out.count.2 HV.out.five
            rw [List.length_map] at h1
            unfold elSt
            omega
          have p0 := hp.cell (i := 0) (by rfl)
          have p1 := hp.cell (i := 1) (by rfl)
          have x0 := hx.cell (i := 0) (by rfl)
          have x1 := hx.cell (i := 1) (by rfl)
          have x2 := hx.cell (i := 2) (by rfl)
          have c1 := hrr.cell (i := 0) (by rfl)
          have ck := hck.cell R1.out.lt k1
          have C2 := Lib.hid ((callsIn_wide (n := 3)).2 (state_any HV.out ((HR.out.below hbw).below ((Below.refl _ _).drew)) hmem))
          by_cases he : stateIt ss (i, j, it) = z
          · have hq : (stateIt ss (i, j, it) == z) = true := by simpa using he
            gi_wp2
            refine wpIn_region_kept (F := Fence.wide) (S := fun w' => w'.cell? ⟨w1.heap.size, 0, none⟩ = some (.pointer (some ⟨R, 0, none⟩)) ∧ w'.cell? ⟨Bp, 0, none⟩ = some (.int .i64 (i : Int)) ∧ w'.cell? ⟨Bp, 1, none⟩ = some (.int .i64 (j : Int)) ∧ w'.cell? ⟨Bx, 0, none⟩ = some (.int .i64 it.kind) ∧ w'.cell? ⟨Bx, 1, none⟩ = some (.string it.name) ∧ w'.cell? ⟨Bx, 2, none⟩ = some (.int .i64 it.scope) ∧ w'.cell? ⟨w.heap.size + 1, 0, none⟩ = some (.int .i64 z)) 1000 l (by kernel_rfl) (by kernel_rfl) ?_
            have hS0 := And.intro (cell_drew c1) (And.intro (cell_drew p0) (And.intro (cell_drew p1) (And.intro (cell_drew x0) (And.intro (cell_drew x1) (And.intro (cell_drew x2) (cell_drew ck))))))
            refine KeptAny.take (i := 0) (v := ?_) (by kernel_rfl) rfl rfl (by kernel_rfl) (by kernel_rfl) (by kernel_rfl) (fun _ _ _ h => h) (by rfl) (fun w' hw' => ?_) (fun _ => rfl) hS0 ?_
            rotate_left
            · (obtain ⟨s0, s1, s2, s3, s4, s5, s6⟩ := hw'; go_simp; try with_reducible rfl)
            refine KeptAny.take (i := 1) (v := ?_) (by kernel_rfl) rfl rfl (by kernel_rfl) (by kernel_rfl) (by kernel_rfl) (fun _ _ _ h => h) (by rfl) (fun w' hw' => ?_) (fun _ => rfl) hS0 ?_
            rotate_left
            · (obtain ⟨s0, s1, s2, s3, s4, s5, s6⟩ := hw'; go_simp; try with_reducible rfl)
            refine KeptAny.take (i := 2) (v := ?_) (by kernel_rfl) rfl rfl (by kernel_rfl) (by kernel_rfl) (by kernel_rfl) (fun _ _ _ h => h) (by rfl) (fun w' hw' => ?_) (fun _ => rfl) hS0 ?_
            rotate_left
            · (obtain ⟨s0, s1, s2, s3, s4, s5, s6⟩ := hw'; go_simp; try with_reducible rfl)
            refine KeptAny.take (i := 4) (v := ?_) (by kernel_rfl) rfl rfl (by kernel_rfl) (by kernel_rfl) (by kernel_rfl) (fun _ _ _ h => h) (by rfl) (fun w' hw' => ?_) (fun _ => rfl) hS0 ?_
            rotate_left
            · (obtain ⟨s0, s1, s2, s3, s4, s5, s6⟩ := hw'; go_simp; try with_reducible rfl)
            refine KeptAny.one (i := 3) (by kernel_rfl) rfl (by rfl) (fun K hK => ?_)
            go_simp
            refine ⟨trivial, ?_⟩
            refine C2.out.mono ?_
            rintro e w4 ⟨rfl, hb4⟩
            have hS4 := And.intro (cell_grow hb4 (cell_drew c1)) (And.intro (cell_grow hb4 (cell_drew p0)) (And.intro (cell_grow hb4 (cell_drew p1)) (And.intro (cell_grow hb4 (cell_drew x0)) (And.intro (cell_grow hb4 (cell_drew x1)) (And.intro (cell_grow hb4 (cell_drew x2)) (cell_grow hb4 (cell_drew ck)))))))
            refine hK.out _ _ hS4 (fun hS => ?_)
            have hb4' : Below W.heap.size W w4 := ((Below.refl _ _).drew).trans hb4
            have HB4 := Lib.hid (hb4'.mono hbw.size)
            have hB4 : Boxed w4 (w1.heap.size + 1) 28 u := (hb4'.block _ hB.lt).trans hB
            have hrow4 := ownsRow_below hrow hb4'
            have hrr4 := hrr.below hb4' hrr.lt
            have hbw4 := hbw.trans HB4.out
            have hck4 := hck.trans (.of_below HB4.out)
            have hKF := (keepsOthers_of_below hb4')
            have q0 := hS.2.1
            have q1 := hS.2.2.1
            have HKF := Lib.hid hKF
            have HCB4 := Lib.hid (And.intro hck4 (And.intro hbw4 hrr4))
            have HS4 := Lib.hid hS
            have hsz4 : w1.heap.size + 1 ≤ w4.heap.size := Nat.le_of_lt hB4.lt
            have HE : Hid (elSt z (pre ++ [(⟨(i, j, it), hmem⟩ : El ss)]) = elSt z pre ++ [((i : Int), (j : Int))]) := Lib.hid (by rw [HQ.out, if_pos he])
            obtain ⟨v', w5, hrun, hown', hgrow⟩ := append_place0 hrow4 (i : Int) (j : Int) hlen' hsz4 28
            have hown2 := hown'
            obtain ⟨g', cap', rfl⟩ := ownsRow_succ hown'
            simp [go_sem] at hrun
            obtain ⟨hv1, hv2, hr2, hk2, hb2⟩ := hB4.appended (by decide) hrow4 hsz4 (Nat.le_refl _) hown2 hgrow
            have cc0 := hB4.cell
            have cc0' := (hB4.alloc (.cells #[.int .i64 (i : Int), .int .i64 (j : Int)] 32)).cell
            have cc1 := hv1.cell
            have ff1 := hv1.frozen
            have HP := Lib.hid (And.intro hv2 (And.intro hr2 (And.intro hk2 hb2)))
            clear hB hrow hck hbw hown' hown2 hgrow hv1 hv2 hr2 hk2 hb2 he hp hx hB4 hrow4 hrr4 hbw4 hck4 hb4 hb4' hKF hrr hS hS4 hK
            refine KeptAny.take (i := 5) (v := ?_) (by kernel_rfl) rfl rfl (by kernel_rfl) (by kernel_rfl) (by kernel_rfl) (fun _ _ _ h => h) (by rfl) (fun w' hw' => ?_) (fun _ => rfl) HS4.out ?_
            rotate_left
            · (go_simp; try with_reducible rfl)
            refine KeptAny.done (by kernel_rfl) ?_ _
            gi_wp2
            refine ⟨(HKF.out.trans HP.out.2.2.1).from _, .of_below (HB4.out.trans (HP.out.2.2.2.mono (by omega))), ⟨_, HP.out.1, ?_, trivial⟩, HCB4.out.1.trans (.of_below (HP.out.2.2.2.mono (by omega))), HCB4.out.2.1.trans (HP.out.2.2.2.mono (by omega)), HCB4.out.2.2.below HP.out.2.2.2 (by omega)⟩
            rw [HE.out, List.length_append, placeCells_snoc]
            exact HP.out.2.1
          · have hq : (stateIt ss (i, j, it) == z) = false := by simpa using he
            gi_wp2
            refine wpIn_region_kept (F := Fence.wide) (S := fun w' => w'.cell? ⟨w1.heap.size, 0, none⟩ = some (.pointer (some ⟨R, 0, none⟩)) ∧ w'.cell? ⟨Bp, 0, none⟩ = some (.int .i64 (i : Int)) ∧ w'.cell? ⟨Bp, 1, none⟩ = some (.int .i64 (j : Int)) ∧ w'.cell? ⟨Bx, 0, none⟩ = some (.int .i64 it.kind) ∧ w'.cell? ⟨Bx, 1, none⟩ = some (.string it.name) ∧ w'.cell? ⟨Bx, 2, none⟩ = some (.int .i64 it.scope) ∧ w'.cell? ⟨w.heap.size + 1, 0, none⟩ = some (.int .i64 z)) 1000 l (by kernel_rfl) (by kernel_rfl) ?_
            have hS0 := And.intro (cell_drew c1) (And.intro (cell_drew p0) (And.intro (cell_drew p1) (And.intro (cell_drew x0) (And.intro (cell_drew x1) (And.intro (cell_drew x2) (cell_drew ck))))))
            refine KeptAny.take (i := 0) (v := ?_) (by kernel_rfl) rfl rfl (by kernel_rfl) (by kernel_rfl) (by kernel_rfl) (fun _ _ _ h => h) (by rfl) (fun w' hw' => ?_) (fun _ => rfl) hS0 ?_
            rotate_left
            · (obtain ⟨s0, s1, s2, s3, s4, s5, s6⟩ := hw'; go_simp; try with_reducible rfl)
            refine KeptAny.take (i := 1) (v := ?_) (by kernel_rfl) rfl rfl (by kernel_rfl) (by kernel_rfl) (by kernel_rfl) (fun _ _ _ h => h) (by rfl) (fun w' hw' => ?_) (fun _ => rfl) hS0 ?_
            rotate_left
            · (obtain ⟨s0, s1, s2, s3, s4, s5, s6⟩ := hw'; go_simp; try with_reducible rfl)
            refine KeptAny.take (i := 2) (v := ?_) (by kernel_rfl) rfl rfl (by kernel_rfl) (by kernel_rfl) (by kernel_rfl) (fun _ _ _ h => h) (by rfl) (fun w' hw' => ?_) (fun _ => rfl) hS0 ?_
            rotate_left
            · (obtain ⟨s0, s1, s2, s3, s4, s5, s6⟩ := hw'; go_simp; try with_reducible rfl)
            refine KeptAny.take (i := 4) (v := ?_) (by kernel_rfl) rfl rfl (by kernel_rfl) (by kernel_rfl) (by kernel_rfl) (fun _ _ _ h => h) (by rfl) (fun w' hw' => ?_) (fun _ => rfl) hS0 ?_
            rotate_left
            · (obtain ⟨s0, s1, s2, s3, s4, s5, s6⟩ := hw'; go_simp; try with_reducible rfl)
            refine KeptAny.one (i := 3) (by kernel_rfl) rfl (by rfl) (fun K hK => ?_)
            go_simp
            refine ⟨trivial, ?_⟩
            refine C2.out.mono ?_
            rintro e w4 ⟨rfl, hb4⟩
            have hS4 := And.intro (cell_grow hb4 (cell_drew c1)) (And.intro (cell_grow hb4 (cell_drew p0)) (And.intro (cell_grow hb4 (cell_drew p1)) (And.intro (cell_grow hb4 (cell_drew x0)) (And.intro (cell_grow hb4 (cell_drew x1)) (And.intro (cell_grow hb4 (cell_drew x2)) (cell_grow hb4 (cell_drew ck)))))))
            refine hK.out _ _ hS4 (fun hS => ?_)
            have hb4' : Below W.heap.size W w4 := ((Below.refl _ _).drew).trans hb4
            have HB4 := Lib.hid (hb4'.mono hbw.size)
            have hB4 : Boxed w4 (w1.heap.size + 1) 28 u := (hb4'.block _ hB.lt).trans hB
            have hrow4 := ownsRow_below hrow hb4'
            have hrr4 := hrr.below hb4' hrr.lt
            have hbw4 := hbw.trans HB4.out
            have hck4 := hck.trans (.of_below HB4.out)
            have hKF := (keepsOthers_of_below hb4')
            have q0 := hS.2.1
            have q1 := hS.2.2.1
            have HKF := Lib.hid hKF
            have HCB4 := Lib.hid (And.intro hck4 (And.intro hbw4 hrr4))
            have HS4 := Lib.hid hS
            have hsz4 : w1.heap.size + 1 ≤ w4.heap.size := Nat.le_of_lt hB4.lt
            have HE : Hid (elSt z (pre ++ [(⟨(i, j, it), hmem⟩ : El ss)]) = elSt z pre) := Lib.hid (by rw [HQ.out, if_neg he, List.append_nil])
            have HP := Lib.hid (And.intro hB4 hrow4)
            clear hB hrow hck hbw he hp hx hB4 hrow4 hrr4 hbw4 hck4 hb4 hb4' hKF hrr hS hS4 hK
            refine KeptAny.take (i := 5) (v := ?_) (by kernel_rfl) rfl rfl (by kernel_rfl) (by kernel_rfl) (by kernel_rfl) (fun _ _ _ h => h) (by rfl) (fun w' hw' => ?_) (fun _ => rfl) HS4.out ?_
            rotate_left
            · (go_simp; try with_reducible rfl)
            refine KeptAny.done (by kernel_rfl) ?_ _
            gi_wp2
            refine ⟨HKF.out.from _, .of_below HB4.out, ⟨u, HP.out.1, ?_, trivial⟩, HCB4.out.1, HCB4.out.2.1, HCB4.out.2.2⟩
            rw [HE.out]
            exact HP.out.2
        case done =>
          rintro D xs W hD hS ⟨⟨u, hB, hrow, -⟩, hck, hbw, hrr⟩ hK
          have cB := hB.cell
          have HS2 : Hid (elSt z xs = stsP ss z) := Lib.hid (by unfold elSt stsP; rw [hS])
          clear hS
          gi_wp2
          refine ⟨by simp, .inl ⟨_, _, rfl, run_takeDeferred hK, ?_⟩⟩
          have hrow2 := ownsRow_lower (ownsRow_putObj hrow (.deferred none) hK rfl) (show w.heap.size ≤ w1.heap.size + 1 from Nat.le_succ_of_le HB.out.size)
          rw [HS2.out] at hrow2
          have hend : Below w.heap.size w (W.putObj D (.deferred none)) := HB.out.trans ((hbw.mono HB.out.size).trans (belowK_b (w := w) (Nat.le_refl _) W D _ _ (by have := HB.out.size; simp at hD; omega) hK rfl rfl))
          exact ⟨_, results_tmp2 rfl _ _ _, .inr ⟨HK.out, u, rfl, hrow2, hend⟩⟩
        case stop =>
          rintro D c pre W _ _ h _
          exact h.elim
/-- What IsSound answers. -/
def SoundVal (ss : List Sc) (b : Bool) : Prop := b = true ↔ Valid ss ∧ ∀ q ∈ placed 0 ss, stateIt ss q = 1
theorem SoundVal.same {ss : List Sc} {a b : Bool} (h : SoundVal ss a) (k : SoundVal ss b) : a = b := Bool.eq_iff_iff.2 (h.trans k.symm)
end Go.Proofs.YtdmaaneilfjfcaaGreatDoor
