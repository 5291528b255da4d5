/-
  The walks of impl's (*resolution).users and UsersOf. Conditions: the argument's memory holds the graph; the package-level errors hold errors.
-/
import Derived.Test.YtimcobenmgbciaaDoorUsrZ
import Derived.Test.YtimcobenmgbciaaDoorJEZ
import Derived.Test.YtimcobenmgbciaaDoorMeanDZ
namespace Go.Proofs.YtimcobenmgbciaaDoor
open Go Go.RowKit Go.Maps
attribute [local go_sem] Oper.semAt_some
theorem below_grown1' {w w' : World} {B : Nat} {row : Option Nat} (h : w.grownBy w' row) (hB : B ≤ w.heap.size) (hr : ∀ r, row = some r → B ≤ r) : Below B w w' := (Below.refl B w).grown h hB hr
/-- The declarations of a list. -/
def declL (l : List (Nat × Nat × It)) : List (Int × Int) := filtL (fun q => decide (q.2.2.kind = 1)) l
theorem declL_snoc (l : List (Nat × Nat × It)) (q : Nat × Nat × It) : declL (l ++ [q]) = declL l ++ if q.2.2.kind = 1 then [plOf q] else [] := by
  unfold declL
  rw [filtL_snoc]
  simp
theorem UsrW.own {B MU n : Nat} {A : List Nat} {dl : List (Int × Int)} {f : Int × Int → List (Int × Int)} {b : Nat} (hb : MU < b) {W W' : World} {row : Option Nat} (h : UsrW W B MU n A dl f) (hg : W.grownBy W' row) (hr : ∀ r, row = some r → b ≤ r ∧ ∃ o : Obj, W.heap[r]? = some o ∧ o.isCells = false) : UsrW W' B MU n A dl f :=
  h.kept (cells_of_grown hg (fun r e => (hr r e).2)) (hg.block MU h.lt (fun e => by have := (hr _ e.symm).1; omega))
theorem UsrW.cells {w w' : World} {B MU n : Nat} {A : List Nat} {dl : List (Int × Int)} {f : Int × Int → List (Int × Int)} (h : UsrW w B MU n A dl f) (hg : w.grownBy w' (some MU)) : CellsKept w.heap.size w w' := by
  obtain ⟨D, g, h1, _⟩ := h
  exact cells_of_grown' hg h1
/-- Rows that a map holds lie where they lay when the map was as it is: apart from what is newer. -/
theorem usr_apart {W W2 : World} {B MU n n2 q : Nat} {dl dl2 : List (Int × Int)} {f f2 : Int × Int → List (Int × Int)} (h : UsrW W B MU n [] dl f) (hs : W2.heap[MU]? = W.heap[MU]?) (h2 : UsrW W2 B MU n2 [] dl2 f2) (hq : W.heap.size ≤ q) : UsrW W2 B MU n2 [q] dl2 f2 := by
  obtain ⟨D, g, h3, h4, h5⟩ := h
  obtain ⟨D2, g2, k3, k4, k5⟩ := h2
  have hD : D2 = D := by
    obtain ⟨es, clock, a1, _, _, a2⟩ := h3
    obtain ⟨es2, clock2, b1, _, _, b2⟩ := k3
    rw [hs, a1] at b1
    cases b1
    rw [a2, b2]
  subst hD
  refine ⟨D2, g2, k3, k4, k5.has, k5.look, k5.rows, k5.apart, fun p hp b hb e => ?_, k5.small⟩
  rw [List.mem_singleton] at hb
  subst hb
  obtain ⟨a, c⟩ := p
  have hw := k5.small _ hp
  have hm : (a, c) ∈ dl := (h5.has a c hw.1 hw.2).1 ((k5.has a c hw.1 hw.2).2 hp)
  have e1 := k5.look a c hp (.map [])
  have e2 := h5.look a c hm (.map [])
  have e3 : g2 (a, c) = g (a, c) := sliceR_eq (sliceR_own (h5.rows _ hm)) (by rw [sliceR_own (k5.rows _ hp), ← e1, e2])
  rw [e3] at e
  have := ((h5.rows _ hm).lt _ e).2
  omega
theorem deferred_own {D b : Nat} {α : Type} (hb : D < b) : OwnFrom b (fun (_ : α) W => W.heap[D]? = some (.deferred (some []))) := fun _ A C row hs hg hr =>
  (hg.block D (Array.getElem?_eq_some_iff.1 hs).1 (fun e => by have := (hr _ e.symm).1; omega)).trans hs
/-- What holds of the map of users in the loops. -/
def UsrRun (w W0 : World) (MU m : Nat) (dl : List (Int × Int)) (f : Int × Int → List (Int × Int)) (W : World) : Prop := Below w.heap.size w W ∧ CellsKept W0.heap.size W0 W ∧ ∃ n, n ≤ m ∧ UsrW W W0.heap.size MU n [] dl f
theorem usrRun_own {w W0 : World} {MU b : Nat} {α : Type} (m : α → Nat) (dl : α → List (Int × Int)) (f : α → Int × Int → List (Int × Int)) (hb : MU < b) (hw : w.heap.size ≤ b) : OwnFrom b (fun (s : α) W => UsrRun w W0 MU (m s) (dl s) (f s) W) := by
  rintro s A C row ⟨h1, h0, n, h2, h3⟩ hg hr
  exact ⟨h1.trans (below_grown1' hg h1.size (fun r e => Nat.le_trans hw (hr r e).1)), h0.trans ((cells_of_grown hg (fun r e => (hr r e).2)).mono h0.size), n, h2, h3.own hb hg hr⟩
/-- What holds while the users of what one item means are entered. -/
structure UsrIn (w W0 W : World) (Bp MU D m b i j : Nat) (dl : List (Int × Int)) (f : Int × Int → List (Int × Int)) (wr : World) : Prop where
  below : Below w.heap.size w wr
  cells : CellsKept W0.heap.size W0 wr
  usr : ∃ n, n ≤ m ∧ UsrW wr W0.heap.size MU n [Bp] dl f
  box : Row wr Bp 27 [.int .i64 (i : Int), .int .i64 (j : Int)]
  keeps : KeepsFrom b W wr
  dfr : wr.heap[D]? = some (.deferred (some []))
theorem UsrIn.drew {w W0 W wr : World} {Bp MU D m b i j : Nat} {dl : List (Int × Int)} {f : Int × Int → List (Int × Int)} (h : UsrIn w W0 W Bp MU D m b i j dl f wr) : UsrIn w W0 W Bp MU D m b i j dl f wr.drew :=
  ⟨h.below.drew, h.cells.trans ((CellsKept.of_below ((Below.refl _ _).drew)).mono h.cells.size), (by obtain ⟨n, h1, h2⟩ := h.usr; exact ⟨n, h1, h2.below ((Below.refl _ _).drew)⟩), h.box.drew, h.keeps.trans ⟨Nat.le_refl _, fun _ _ _ h _ => h⟩, h.dfr⟩
set_option maxRecDepth 100000 in
set_option maxHeartbeats 16000000 in
theorem users_any {ss : List Sc} (hv : Valid ss) {w : World} {B R T M1 M2 MR : Nat} {v : Value} {ds : List Nd} {le : List Ent} (hR : ResW w B R T M1 M2 MR v ds ss le) :
    Calls Tryd.prog 72 #[.pointer (some ⟨R, 0, none⟩)] w fun e w' => ∃ MU n, e = .returned (.map (some MU)) ∧ UsrW w' w.heap.size MU n [] (declL (placed 0 ss)) (usesF ss (placed 0 ss)) ∧ Below w.heap.size w w' := by
  have hmm := @run_makeMap Tryd.prog
  have HR := Lib.hid hR
  have HV := Lib.hid hv
  have r0 := (((hR.box.alloc (.cells #[.pointer (some ⟨R, 0, none⟩)] 69)).alloc (.map #[] 0)).alloc (.cells #[.map (some (w.heap.size + 1))] 75)).cell (i := 0) (v := .pointer (some ⟨T, 0, none⟩)) (by rfl)
  have hb3 : Below w.heap.size w (((w.alloc (.cells #[.pointer (some ⟨R, 0, none⟩)] 69)).alloc (.map #[] 0)).alloc (.cells #[.map (some (w.heap.size + 1))] 75)) := (((Below.refl _ _).alloc (Nat.le_refl _) _).alloc (by simp) _).alloc (by simp; omega) _
  have HBR := Lib.hid (((Row.new w [.pointer (some ⟨R, 0, none⟩)] 69).alloc (.map #[] 0)).alloc (.cells #[.map (some (w.heap.size + 1))] 75))
  have hBU := Row.new ((w.alloc (.cells #[.pointer (some ⟨R, 0, none⟩)] 69)).alloc (.map #[] 0)) [.map (some (w.heap.size + 1))] 75
  have hUW : UsrW (((w.alloc (.cells #[.pointer (some ⟨R, 0, none⟩)] 69)).alloc (.map #[] 0)).alloc (.cells #[.map (some (w.heap.size + 1))] 75)) w.heap.size (w.heap.size + 1) 0 [] [] (fun _ => []) := by
    have h := World.ownsMap_made (H := Unit) (w.alloc (.cells #[.pointer (some ⟨R, 0, none⟩)] 69)) Tryd.prog 27 sliceR
    rw [World.size_alloc] at h
    exact (usr_nil h).below ((Below.refl _ _).alloc (Nat.le_refl _) _)
  rw [World.size_alloc, World.size_alloc] at hBU
  have HBU := Lib.hid hBU
  have HUW := Lib.hid hUW
  have HB3 := Lib.hid hb3
  have HSZ3 : Hid ((((w.alloc (.cells #[.pointer (some ⟨R, 0, none⟩)] 69)).alloc (.map #[] 0)).alloc (.cells #[.map (some (w.heap.size + 1))] 75)).heap.size = w.heap.size + 3) := Lib.hid (by simp)
  clear hR hv hb3 hBU hUW
  refine (callsIn_wide (n := 6)).1 ?_
  refine callsIn_of_wp_marks Tryd.func72 rfl trivial ?_ rfl
  simp only [Tryd.ntmps72, List.size_toArray, List.length_cons, List.length_nil, Nat.reduceAdd, Nat.reduceSub, Array.replicate_succ, Array.replicate_zero, List.push_toArray, List.append_toArray, List.nil_append, List.cons_append]
  gi_wp2_with fail
  refine ⟨trivial, ?_⟩
  gi_at_call 102
  generalize hW3 : ((w.alloc (.cells #[.pointer (some ⟨R, 0, none⟩)] 69)).alloc (.map #[] 0)).alloc (.cells #[.map (some (w.heap.size + 1))] 75) = W3 at *
  refine ((callsIn_wide (n := 5)).2 (all_any T _)).mono ?_
  rintro e w5 ⟨rfl, rfl⟩
  have bN := Boxed.new W3 74 (.pointer (some ⟨T, 0, none⟩))
  have hB34 : Below W3.heap.size W3 (W3.alloc (.cells #[.pointer (some ⟨T, 0, none⟩)] 74)) := (Below.refl _ _).alloc (Nat.le_refl _) _
  have hsz : (W3.alloc (.cells #[.pointer (some ⟨T, 0, none⟩)] 74)).heap.size = W3.heap.size + 1 := by simp
  gi_wp2
  generalize hW0 : W3.alloc (.cells #[.pointer (some ⟨T, 0, none⟩)] 74) = W0 at bN hB34 hsz ⊢
  clear hW0
  have HBN := Lib.hid bN.cell
  have HB34 := Lib.hid hB34
  have HBX := Lib.hid (HB3.out.trans (hB34.mono HB3.out.size))
  have HSZ0 : Hid (W0.heap.size = w.heap.size + 4) := Lib.hid (by rw [hsz, HSZ3.out])
  have hsm := HV.out.small
  have h30 := placed_bound 0 ss 6 5 HV.out.count.2 HV.out.five
  have HUW0 : Hid (UsrW W0 W0.heap.size (w.heap.size + 1) 0 [] [] (fun _ => [])) := Lib.hid (by
    obtain ⟨D, g, h1, h2, h3⟩ := HUW.out.below hB34
    exact ⟨D, g, h1, h2, h3.has, h3.look, (fun p hp => by cases hp), h3.apart, h3.far, h3.small⟩)
  clear bN hB34
  refine wpIn_rangeFunc_ownH rfl (by omega) (gf := 144) (lb := #[.pointer (some ⟨W3.heap.size, 0, none⟩)]) rfl trivial (enters_of Tryd.func144 (by kernel_rfl) rfl)
    (all_stops 5 (by omega) W3.heap.size _ T M1 M2 v ds ss w _ HR.out.tree.tree HR.out.tree.hold (HR.out.tree.ne HV.out) hsm.len hsm.items (.of_below HBX.out) HBN.out) CellsKept.trans (fun W l o o' _ h1 h2 h3 => cellsKept_b (w := w) W l o o' (by have := HSZ3.out; have := HSZ0.out; omega) h1 h2 h3) (Below.refl _ _) (fun _ => rfl)
    (fun pre W => UsrRun w W0 (w.heap.size + 1) pre.length (declL (pre.map Subtype.val)) (fun _ => []) W)
    (fun _ _ _ => False)
    (usrRun_own (fun pre : List (El ss) => pre.length) (fun pre => declL (pre.map Subtype.val)) (fun _ _ => []) (by have := HSZ3.out; have := HSZ0.out; omega) (by have := HSZ3.out; have := HSZ0.out; omega))
    (fun _ _ _ _ _ hs _ _ => hs)
    ⟨HBX.out, CellsKept.refl _ _, 0, Nat.le_refl _, HUW0.out⟩
    (fun x a' W => ∃ Bp Bx, Row W Bp 27 [.int .i64 (x.1.1 : Int), .int .i64 (x.1.2.1 : Int)] ∧ Row W Bx 38 [.int .i64 x.1.2.2.kind, .string x.1.2.2.name, .int .i64 x.1.2.2.scope] ∧
      a' = { tmps := #[.pointer (some ⟨R, 0, none⟩), .pointer (some ⟨w.heap.size, 0, none⟩), .map none, .pointer (some ⟨w.heap.size + 1 + 1, 0, none⟩), .pointer (some ⟨Bp, 0, none⟩), .pointer (some ⟨Bx, 0, none⟩), undef, undef, undef, undef, .map (some (w.heap.size + 1)), .pointer (some ⟨R, 0, none⟩), .pointer (some ⟨R, 0, none⟩), .pointer (some ⟨R, 0, none⟩), .pointer (some ⟨T, 0, none⟩), .func (.func 144) #[] #[.pointer (some ⟨W3.heap.size, 0, none⟩)], .agg #[.int .i64 (x.1.1 : Int), .int .i64 (x.1.2.1 : Int)], .agg #[.int .i64 x.1.2.2.kind, .string x.1.2.2.name, .int .i64 x.1.2.2.scope], undef, undef, undef, undef, undef, undef, undef, undef, undef, undef, undef, undef, undef, undef, undef, undef, undef, undef, undef, undef, undef, undef, undef, undef, undef, undef, undef, undef, undef, undef, undef, undef, undef, undef, undef, undef], defers := [] })
    (fun x a' _ X Y row hs hg hr => by obtain ⟨Bp, Bx, h1, h2, h3⟩ := hs; exact ⟨Bp, Bx, h1.kept_cells hg (fun r e => (hr r e).2), h2.kept_cells hg (fun r e => (hr r e).2), h3⟩)
    ?assign ?body ?done ?stop
  case assign =>
    rintro l pre x W K hi hK
    dsimp only [elArgs]
    gi_wp2
    have ha : Below W.heap.size W ((W.alloc (.cells #[.int .i64 (x.1.1 : Int), .int .i64 (x.1.2.1 : Int)] 27)).alloc (.cells #[.int .i64 x.1.2.2.kind, .string x.1.2.2.name, .int .i64 x.1.2.2.scope] 38)) := ((Below.refl _ _).alloc (Nat.le_refl _) _).alloc (by simp) _
    obtain ⟨h1, h0, n, h2, h3⟩ := hi
    refine hK _ _ (((KeepsOthers.alloc _ _).trans (KeepsOthers.alloc _ _)).from _) ((CellsKept.of_below ha).mono h1.size) ⟨h1.trans (ha.mono h1.size), h0.trans ((CellsKept.of_below ha).mono h0.size), n, h2, h3.below ha⟩ ⟨W.heap.size, W.heap.size + 1, ?_, ?_, rfl⟩
    · exact (Row.new W [.int .i64 (x.1.1 : Int), .int .i64 (x.1.2.1 : Int)] 27).alloc _
    · have := Row.new (W.alloc (.cells #[.int .i64 (x.1.1 : Int), .int .i64 (x.1.2.1 : Int)] 27)) [.int .i64 x.1.2.2.kind, .string x.1.2.2.name, .int .i64 x.1.2.2.scope] 38
      rw [World.size_alloc] at this
      exact this
  case body =>
    rintro l pre x a' W hl _ ⟨h1, h0, n, h2, h3⟩ ⟨Bp, Bx, hp, hx, rfl⟩ hlen
    obtain ⟨⟨i, j, it⟩, hmem⟩ := x
    dsimp only at hp hx ⊢
    have hlt := hsm.lt hmem
    have HDL : Hid (declL ((pre ++ [(⟨(i, j, it), hmem⟩ : El ss)]).map Subtype.val) = declL (pre.map Subtype.val) ++ if it.kind = 1 then [((i : Int), (j : Int))] else []) := Lib.hid (by rw [List.map_append]; exact declL_snoc _ _)
    have x0 := hx.cell (i := 0) (v := .int .i64 it.kind) (by rfl)
    have c3 := ((HBU.out.below HB34.out HBU.out.lt).cells h0).cell (i := 0) (v := .map (some (w.heap.size + 1))) (by rfl)
    have HK0 := Lib.hid (And.intro h1 h0)
    by_cases hk : it.kind = 1
    · have d1 : (it.kind == 1) = true := by rw [hk]; rfl
      have p0 := hp.cell (i := 0) (v := .int .i64 (i : Int)) (by rfl)
      have p1 := hp.cell (i := 1) (v := .int .i64 (j : Int)) (by rfl)
      obtain ⟨w6, hrun6, hu6, hg6⟩ := usr_new h3 (by omega) (wf_small hlt.1) (wf_small hlt.2) rfl
      have HU6 : Hid (UsrRun w W0 (w.heap.size + 1) (pre ++ [(⟨(i, j, it), hmem⟩ : El ss)]).length (declL ((pre ++ [(⟨(i, j, it), hmem⟩ : El ss)]).map Subtype.val)) (fun _ => []) w6) := Lib.hid (by
        rw [HDL.out, if_pos hk]
        exact ⟨h1.trans (below_grown1' hg6 h1.size (fun r e => by cases e; have := HSZ3.out; have := HSZ0.out; omega)), h0.trans ((h3.cells hg6).mono h0.size), n + 1, by rw [List.length_append]; simp; omega, hu6⟩)
      have HG6 := Lib.hid (And.intro hg6 (h3.cells hg6))
      clear h1 h0 h3 hu6 hg6 hp hx
      gi_wp2
      exact ⟨KeepsFrom.of_grownBy HG6.out.1 (fun r e => by cases e; have := HSZ3.out; have := HSZ0.out; omega), HG6.out.2.mono HK0.out.1.size, HU6.out⟩
    · have d1 : (it.kind == 1) = false := by simpa using hk
      have HU6 : Hid (UsrRun w W0 (w.heap.size + 1) (pre ++ [(⟨(i, j, it), hmem⟩ : El ss)]).length (declL ((pre ++ [(⟨(i, j, it), hmem⟩ : El ss)]).map Subtype.val)) (fun _ => []) W) := Lib.hid (by
        rw [HDL.out, if_neg hk, List.append_nil]
        exact ⟨h1, h0, n, by rw [List.length_append]; simp; omega, h3⟩)
      clear h1 h0 h3 hp hx
      gi_wp2
      exact ⟨KeepsFrom.refl _ _, CellsKept.refl _ _, HU6.out⟩
  case done =>
    rintro D xs W1 hD hS ⟨h1, h0, n, h2, h3⟩ hK
    -- LOOP2
    have hRB := ((HBR.out.below HB34.out HBR.out.lt).cells h0)
    have t1 := hRB.cell (i := 0) (v := .pointer (some ⟨R, 0, none⟩)) (by rfl)
    have HRW := Lib.hid (HR.out.below h1)
    have r0 := HRW.out.box.cell (i := 0) (v := .pointer (some ⟨T, 0, none⟩)) (by rfl)
    have HDL : Hid (declL (xs.map Subtype.val) = declL (placed 0 ss)) := Lib.hid (by rw [hS])
    have hxl : xs.length = (placed 0 ss).length := by rw [← hS, List.length_map]
    have HU1 : Hid (UsrRun w W0 (w.heap.size + 1) 30 (declL (placed 0 ss)) (usesF ss []) W1) := Lib.hid ⟨h1, h0, n, by omega, by rw [← HDL.out]; exact h3⟩
    have HDW := Lib.hid (And.intro hD hK)
    have HB1 := Lib.hid h1
    clear h1 h0 h3 hK hRB hS hxl hD
    gi_wp2_with fail
    refine ⟨trivial, ?_⟩
    gi_at_call 102
    refine ((callsIn_wide (n := 5)).2 (all_any T _)).mono ?_
    rintro e w6 ⟨rfl, rfl⟩
    have bN2 := Boxed.new W1 74 (.pointer (some ⟨T, 0, none⟩))
    have hBa : Below W1.heap.size W1 (W1.alloc (.cells #[.pointer (some ⟨T, 0, none⟩)] 74)) := (Below.refl _ _).alloc (Nat.le_refl _) _
    have hszb : (W1.alloc (.cells #[.pointer (some ⟨T, 0, none⟩)] 74)).heap.size = W1.heap.size + 1 := by simp
    have HU2 : Hid (UsrRun w W0 (w.heap.size + 1) 30 (declL (placed 0 ss)) (usesF ss []) (W1.alloc (.cells #[.pointer (some ⟨T, 0, none⟩)] 74))) := Lib.hid (by
      obtain ⟨k1, k2, n2, k3, k4⟩ := HU1.out
      exact ⟨k1.trans (hBa.mono k1.size), k2.trans ((CellsKept.of_below hBa).mono k2.size), n2, k3, k4.below hBa⟩)
    have HD2 : Hid ((W1.alloc (.cells #[.pointer (some ⟨T, 0, none⟩)] 74)).heap[D]? = some (.deferred (some []))) := Lib.hid ((hBa.block D (Array.getElem?_eq_some_iff.1 HDW.out.2).1).trans HDW.out.2)
    have HSW : Hid (w.heap.size + 4 ≤ W1.heap.size ∧ D < W1.heap.size) := Lib.hid ⟨by have h9 := HU1.out.2.1.size; have := HSZ0.out; omega, (Array.getElem?_eq_some_iff.1 HDW.out.2).1⟩
    clear t1 r0
    gi_wp2
    generalize hWb : W1.alloc (.cells #[.pointer (some ⟨T, 0, none⟩)] 74) = Wb at bN2 hBa hszb HU2 HD2 ⊢
    clear hWb
    have HBN2 := Lib.hid bN2.cell
    have HSZB := Lib.hid hszb
    clear bN2 hBa hszb
    refine wpIn_rangeFunc_ownH rfl (by omega) (gf := 144) (lb := #[.pointer (some ⟨W1.heap.size, 0, none⟩)]) rfl trivial (enters_of Tryd.func144 (by kernel_rfl) rfl)
      (all_stops 5 (by omega) W1.heap.size _ T M1 M2 v ds ss w _ HR.out.tree.tree HR.out.tree.hold (HR.out.tree.ne HV.out) hsm.len hsm.items (.of_below HU2.out.1) HBN2.out) CellsKept.trans (fun W l o o' _ h1 h2 h3 => cellsKept_b (w := w) W l o o' (by have := HSW.out; have := HSZB.out; omega) h1 h2 h3) (Below.refl _ _) (fun _ => rfl)
      (fun pre W => UsrRun w W0 (w.heap.size + 1) (30 + 25 * pre.length) (declL (placed 0 ss)) (usesF ss (pre.map Subtype.val)) W ∧ W.heap[D]? = some (.deferred (some [])))
      (fun _ _ _ => False)
      (OwnFrom.and (usrRun_own (fun pre : List (El ss) => 30 + 25 * pre.length) (fun _ => declL (placed 0 ss)) (fun pre => usesF ss (pre.map Subtype.val)) (by have := HSW.out; have := HSZB.out; omega) (by have := HSW.out; have := HSZB.out; omega)) (deferred_own (by have := HSW.out; have := HSZB.out; omega)))
      (fun _ _ _ _ _ hs _ _ => hs)
      ⟨HU2.out, HD2.out⟩
      (fun x a' W => ∃ Bp Bx o, Row W Bp 27 [.int .i64 (x.1.1 : Int), .int .i64 (x.1.2.1 : Int)] ∧ Row W Bx 38 [.int .i64 x.1.2.2.kind, .string x.1.2.2.name, .int .i64 x.1.2.2.scope] ∧ (W.heap[w.heap.size + 1]? = o ∧ w.heap.size + 1 < W.heap.size) ∧
        (∀ (W2 : World) (n2 : Nat) (dl2 : List (Int × Int)) (f2 : Int × Int → List (Int × Int)), W2.heap[w.heap.size + 1]? = o → UsrW W2 W0.heap.size (w.heap.size + 1) n2 [] dl2 f2 → UsrW W2 W0.heap.size (w.heap.size + 1) n2 [Bp] dl2 f2) ∧
        a' = { tmps := #[.pointer (some ⟨R, 0, none⟩), .pointer (some ⟨w.heap.size, 0, none⟩), .map none, .pointer (some ⟨w.heap.size + 1 + 1, 0, none⟩), undef, undef, .pointer (some ⟨Bp, 0, none⟩), .pointer (some ⟨Bx, 0, none⟩), undef, undef, .map (some (w.heap.size + 1)), .pointer (some ⟨R, 0, none⟩), .pointer (some ⟨R, 0, none⟩), .pointer (some ⟨R, 0, none⟩), .pointer (some ⟨T, 0, none⟩), .func (.func 144) #[] #[.pointer (some ⟨W3.heap.size, 0, none⟩)], undef, undef, undef, undef, undef, undef, undef, .pointer (some ⟨R, 0, none⟩), .pointer (some ⟨R, 0, none⟩), .pointer (some ⟨R, 0, none⟩), .pointer (some ⟨T, 0, none⟩), .func (.func 144) #[] #[.pointer (some ⟨W1.heap.size, 0, none⟩)], .agg #[.int .i64 (x.1.1 : Int), .int .i64 (x.1.2.1 : Int)], .agg #[.int .i64 x.1.2.2.kind, .string x.1.2.2.name, .int .i64 x.1.2.2.scope], undef, undef, undef, undef, undef, undef, undef, undef, undef, undef, undef, undef, undef, undef, undef, undef, undef, undef, undef, undef, undef, undef, undef, undef], defers := [] })
      (fun x a' _ X Y row hs hg hr => by
        obtain ⟨Bp, Bx, o, h1, h2, h3, h4, h5⟩ := hs
        exact ⟨Bp, Bx, o, h1.kept_cells hg (fun r e => (hr r e).2), h2.kept_cells hg (fun r e => (hr r e).2), ⟨(hg.block _ h3.2 (fun e => by have := (hr _ e.symm).1; have := HSW.out; have := HSZB.out; omega)).trans h3.1, Nat.lt_of_lt_of_le h3.2 hg.size⟩, h4, h5⟩)
      ?assign2 ?body2 ?done2 ?stop2
    case assign2 =>
      rintro l pre x W K hi hK
      dsimp only [elArgs]
      gi_wp2
      have ha : Below W.heap.size W ((W.alloc (.cells #[.int .i64 (x.1.1 : Int), .int .i64 (x.1.2.1 : Int)] 27)).alloc (.cells #[.int .i64 x.1.2.2.kind, .string x.1.2.2.name, .int .i64 x.1.2.2.scope] 38)) := ((Below.refl _ _).alloc (Nat.le_refl _) _).alloc (by simp) _
      obtain ⟨⟨h1, h0, n, h2, h3⟩, hd⟩ := hi
      refine hK _ _ (((KeepsOthers.alloc _ _).trans (KeepsOthers.alloc _ _)).from _) ((CellsKept.of_below ha).mono h1.size) ⟨⟨h1.trans (ha.mono h1.size), h0.trans ((CellsKept.of_below ha).mono h0.size), n, h2, h3.below ha⟩, (ha.block D (Array.getElem?_eq_some_iff.1 hd).1).trans hd⟩ ⟨W.heap.size, W.heap.size + 1, W.heap[w.heap.size + 1]?, ?_, ?_, ⟨ha.block _ h3.lt, Nat.lt_of_lt_of_le h3.lt ha.size⟩, fun W2 n2 dl2 f2 hW2 hU2 => usr_apart h3 hW2 hU2 (Nat.le_refl _), rfl⟩
      · exact (Row.new W [.int .i64 (x.1.1 : Int), .int .i64 (x.1.2.1 : Int)] 27).alloc _
      · have := Row.new (W.alloc (.cells #[.int .i64 (x.1.1 : Int), .int .i64 (x.1.2.1 : Int)] 27)) [.int .i64 x.1.2.2.kind, .string x.1.2.2.name, .int .i64 x.1.2.2.scope] 38
        rw [World.size_alloc] at this
        exact this
    case body2 =>
      rintro l pre x a' W hl _ ⟨⟨h1, h0, n, h2, h3⟩, hd⟩ ⟨Bp, Bx, o, hp, hx, ho, hap, rfl⟩ hlen
      obtain ⟨⟨i, j, it⟩, hmem⟩ := x
      dsimp only at hp hx ⊢
      have hlt := hsm.lt hmem
      have HUF : Hid (∀ d, usesF ss ((pre ++ [(⟨(i, j, it), hmem⟩ : El ss)]).map Subtype.val) d = usesF ss (pre.map Subtype.val) d ++ if it.kind = 1 then [] else usesK ss (i, j, it) (meanIt ss (i, j, it)).length d) := Lib.hid (fun d => by rw [List.map_append]; exact usesF_snoc ss _ _ d)
      have x0 := hx.cell (i := 0) (v := .int .i64 it.kind) (by rfl)
      by_cases hk : it.kind = 1
      · have d1 : (it.kind == 1) = true := by rw [hk]; rfl
        have HU6 : Hid (UsrRun w W0 (w.heap.size + 1) (30 + 25 * (pre ++ [(⟨(i, j, it), hmem⟩ : El ss)]).length) (declL (placed 0 ss)) (usesF ss ((pre ++ [(⟨(i, j, it), hmem⟩ : El ss)]).map Subtype.val)) W ∧ W.heap[D]? = some (.deferred (some []))) := Lib.hid
          ⟨⟨h1, h0, n, by rw [List.length_append]; omega, h3.same (fun d _ => by rw [HUF.out d, if_pos hk, List.append_nil])⟩, hd⟩
        clear h1 h0 h3 hp hx hap ho hd
        gi_wp2
        exact ⟨KeepsFrom.refl _ _, CellsKept.refl _ _, HU6.out⟩
      · have d1 : (it.kind == 1) = false := by simpa using hk
        have t1 := ((HBR.out.below HB34.out HBR.out.lt).cells h0).cell (i := 0) (v := .pointer (some ⟨R, 0, none⟩)) (by rfl)
        have HRW2 := Lib.hid (HR.out.below h1)
        have m1 := HRW2.out.box.cell (i := 1) (v := .map (some MR)) (by rfl)
        obtain ⟨u, hfix0, hown⟩ := mean_fix HV.out HR.out.mean HR.out.full hmem
        have hfix := fun (w' : World) (e : w'.heap[MR]? = W.heap[MR]?) => hfix0 w' (e.trans (h1.block MR HR.out.mean.lt))
        obtain ⟨om, cm, rfl, hA⟩ := argPlaces_of_owns hown
        have p0 := hp.cell (i := 0) (v := .int .i64 (i : Int)) (by rfl)
        have p1 := hp.cell (i := 1) (v := .int .i64 (j : Int)) (by rfl)
        have hml := meanIt_length HV.out (i, j, it)
        have HMP : Hid (∀ e ∈ meanIt ss (i, j, it), IsPlace ss e ∧ e ∈ declL (placed 0 ss)) := Lib.hid (fun e he => ⟨meanIt_isPlace hmem e he, by
          obtain ⟨y, hy, hy1, -⟩ := mean_declM (by rcases kind_cases HV.out hmem with h | h | h <;> simp_all) he
          obtain ⟨a, b⟩ := e
          obtain ⟨c, d, rfl, rfl, hq⟩ := item_placed hy
          unfold declL filtL
          exact List.mem_map.2 ⟨(c, d, y), List.mem_filter.2 ⟨hq, by simpa using hy1⟩, rfl⟩⟩)
        have hU0 := hap W n _ _ ho.1 h3
        have HI0 : Hid (UsrIn w W0 W Bp (w.heap.size + 1) D n (W1.heap.size + 1) i j (declL (placed 0 ss)) (fun d => usesF ss (pre.map Subtype.val) d ++ usesK ss (i, j, it) 0 d) W) := Lib.hid
          ⟨h1, h0, ⟨n, Nat.le_refl _, hU0.same (fun d _ => by rw [usesK_zero, List.append_nil])⟩, hp, KeepsFrom.refl _ _, hd⟩
        have HUL : Hid (∀ k d, (usesF ss (pre.map Subtype.val) d ++ usesK ss (i, j, it) k d).length < 1000000) := Lib.hid (fun k d => by
          have a1 := usesF_length HV.out d (pre.map Subtype.val)
          have a2 := usesK_length ss (i, j, it) k d
          rw [List.length_map] at a1
          rw [List.length_append]
          omega)
        obtain ⟨ml, hmle⟩ : ∃ ml, meanIt ss (i, j, it) = ml := ⟨_, rfl⟩
        have HML := Lib.hid hmle
        have HBW := Lib.hid h1
        have HKD := Lib.hid hk
        have HFX := Lib.hid hfix
        have HNN := Lib.hid (And.intro h2 hlen)
        have HAA := Lib.hid hA
        have HDD : Hid (D < W1.heap.size + 1 ∧ w.heap.size + 4 ≤ D) := Lib.hid ⟨by have := HSW.out; omega, by have := HDW.out.1; have := HSZ0.out; omega⟩
        rw [hmle] at HMP hml HAA HFX
        clear h1 h0 h3 hp hx hap ho hd hfix hfix0 hown hA hmle hU0 hk
        gi_wp2
        refine wpIn_region_kept (F := Fence.wide) (S := fun w' => w'.cell? ⟨w.heap.size, 0, none⟩ = some (.pointer (some ⟨R, 0, none⟩)) ∧ w'.cell? ⟨R, 1, none⟩ = some (.map (some MR)) ∧ w'.cell? ⟨Bp, 0, none⟩ = some (.int .i64 (i : Int)) ∧ w'.cell? ⟨Bp, 1, none⟩ = some (.int .i64 (j : Int)) ∧ w'.heap[MR]? = W.heap[MR]?) 1000 l (by kernel_rfl) (by kernel_rfl) ?_
        have hS0 := And.intro (cell_drew t1) (And.intro (cell_drew m1) (And.intro (cell_drew p0) (And.intro (cell_drew p1) (rfl : W.drew.heap[MR]? = W.heap[MR]?))))
        refine KeptAny.take (i := 0) (v := ?_) (by kernel_rfl) rfl rfl (by kernel_rfl) (by kernel_rfl) (by kernel_rfl) (fun _ _ _ h => h) (by rfl) (fun w' hw' => ?_) (fun _ => rfl) hS0 ?_
        rotate_left
        · (obtain ⟨g0, g1, g2, g3, g4⟩ := hw'; go_simp; try with_reducible rfl)
        refine KeptAny.take (i := 1) (v := ?_) (by kernel_rfl) rfl rfl (by kernel_rfl) (by kernel_rfl) (by kernel_rfl) (fun _ _ _ h => h) (by rfl) (fun w' hw' => ?_) (fun _ => rfl) hS0 ?_
        rotate_left
        · (obtain ⟨g0, g1, g2, g3, g4⟩ := hw'; go_simp; try with_reducible rfl)
        refine KeptAny.take (i := 2) (v := ?_) (by kernel_rfl) rfl rfl (by kernel_rfl) (by kernel_rfl) (by kernel_rfl) (fun _ _ _ h => h) (by rfl) (fun w' hw' => ?_) (fun _ => rfl) hS0 ?_
        rotate_left
        · (obtain ⟨g0, g1, g2, g3, g4⟩ := hw'; go_simp; try with_reducible rfl)
        refine KeptAny.take (i := 3) (v := ?_) (by kernel_rfl) rfl rfl (by kernel_rfl) (by kernel_rfl) (by kernel_rfl) (fun _ _ _ h => h) (by rfl) (fun w' hw' => ?_) (fun _ => rfl) hS0 ?_
        rotate_left
        · (obtain ⟨g0, g1, g2, g3, g4⟩ := hw'; go_simp; try with_reducible rfl)
        refine KeptAny.take (i := 4) (v := ?_) (by kernel_rfl) rfl rfl (by kernel_rfl) (by kernel_rfl) (by kernel_rfl) (fun _ _ _ h => h) (by rfl) (fun w' hw' => ?_) (fun _ => rfl) hS0 ?_
        rotate_left
        · (obtain ⟨g0, g1, g2, g3, g4⟩ := hw'; go_simp; try with_reducible rfl)
        refine KeptAny.take (i := 5) (v := ?_) (by kernel_rfl) rfl rfl (by kernel_rfl) (by kernel_rfl) (by kernel_rfl) (fun _ _ _ h => h) (by rfl) (fun w' hw' => ?_) (fun _ => rfl) hS0 ?_
        rotate_left
        · (obtain ⟨g0, g1, g2, g3, g4⟩ := hw'; have hl := HFX.out w' g4; go_simp; try with_reducible rfl)
        refine KeptAny.take (i := 6) (v := ?_) (by kernel_rfl) rfl rfl (by kernel_rfl) (by kernel_rfl) (by kernel_rfl) (fun _ _ _ h => h) (by rfl) (fun w' hw' => ?_) (fun _ => rfl) hS0 ?_
        rotate_left
        · (obtain ⟨g0, g1, g2, g3, g4⟩ := hw'; go_simp; try with_reducible rfl)
        refine KeptAny.one (i := 7) (by kernel_rfl) rfl (by rfl) (fun K hK => ?_)
        go_simp
        refine hK.out _ _ hS0 (fun _ => ?_)
        clear hK
        refine KeptAny.done (by kernel_rfl) ?_ _
        clear hS0 t1 m1 p0 p1
        gi_wp2
        gi_loopw [40] (fun iv wr => ∃ k : Nat, iv = .int .i64 k ∧ k ≤ ml.length ∧ Hid (UsrIn w W0 W Bp (w.heap.size + 1) D (n + k) (W1.heap.size + 1) i j (declL (placed 0 ss)) (fun d => usesF ss (pre.map Subtype.val) d ++ usesK ss (i, j, it) k d) wr)) (fun iv _ => ml.length - (intOf iv).toNat)
        case atStart => exact ⟨0, rfl, Nat.zero_le _, Lib.hid (HI0.out.drew)⟩
        case round =>
          obtain ⟨k, rfl, hk, hP⟩ := hrel
          by_cases hlt2 : k < ml.length
          · obtain ⟨e, he⟩ : ∃ e, ml[k]? = some e := ⟨_, List.getElem?_eq_getElem hlt2⟩
            obtain ⟨⟨ci, cj, cs, cx, rfl, hcs, hcx⟩, hdl⟩ := HMP.out e (List.mem_of_getElem? he)
            obtain ⟨b2, f2, rfl, hb2, q2⟩ := (HAA.out.below hP.out.below).at (by omega)
            obtain ⟨y0, y1⟩ := q2 k _ he
            dsimp only at y0 y1
            have hbd := (Below.refl wr.heap.size wr).alloc (Nat.le_refl _) (.cells #[.int .i64 (ci : Int), .int .i64 (cj : Int)] 27)
            obtain ⟨n', hn', hU⟩ := hP.out.usr
            have hUd := hU.below hbd
            have hszd : W0.heap.size ≤ (wr.alloc (.cells #[.int .i64 (ci : Int), .int .i64 (cj : Int)] 27)).heap.size := Nat.le_trans hP.out.cells.size hbd.size
            obtain ⟨u, st, v', wa, wb, hent, hrun, hsto, hU2, hpush⟩ := usr_push hUd (by have := HNN.out; omega) hszd (fun b hb => by rw [List.mem_singleton] at hb; subst hb; exact Nat.lt_of_lt_of_le hP.out.box.lt hbd.size) hdl (HUL.out k _) (i : Int) (j : Int) 30
            have HNX : Hid (UsrIn w W0 W Bp (w.heap.size + 1) D (n + (k + 1)) (W1.heap.size + 1) i j (declL (placed 0 ss)) (fun d => usesF ss (pre.map Subtype.val) d ++ usesK ss (i, j, it) (k + 1) d) wb) := Lib.hid (by
              have hw4 := HSW.out
              have hz0 := HSZ0.out
              have hkp := hpush.keeps (W1.heap.size + 1) (by omega)
              refine ⟨(hP.out.below.trans (hbd.mono hP.out.below.size)).trans (hpush.below _ (by omega) (by omega)), (hP.out.cells.trans ((CellsKept.of_below hbd).mono hP.out.cells.size)).trans hpush.cells, ⟨n' + 1, by omega, hU2.same (fun d _ => ?_)⟩, hpush.rows Bp (List.mem_singleton.2 rfl) _ _ (hP.out.box.below hbd hP.out.box.lt), (hP.out.keeps.trans ((KeepsOthers.alloc _ _).from _)).trans hkp, ?_⟩
              · have hke : (meanIt ss (i, j, it))[k]? = some ((ci : Int), (cj : Int)) := by rw [HML.out]; exact he
                rw [usesK_next hke]
                by_cases hde : d = ((ci : Int), (cj : Int))
                · subst hde
                  rw [if_pos rfl, if_pos rfl, List.append_assoc]
                  rfl
                · rw [if_neg hde, if_neg hde, List.append_nil]
              · exact (hpush.keeps (w.heap.size + 2) (by omega)).same D _ (by have := HDD.out; omega) ((hbd.block D (Array.getElem?_eq_some_iff.1 hP.out.dfr).1).trans hP.out.dfr) rfl)
            have c3 := (((HBU.out.below HB34.out HBU.out.lt).cells hP.out.cells).alloc (.cells #[.int .i64 (ci : Int), .int .i64 (cj : Int)] 27)).cell (i := 0) (v := .map (some (w.heap.size + 1))) (by rfl)
            have RD := Row.new wr [.int .i64 (ci : Int), .int .i64 (cj : Int)] 27
            have d0 := RD.cell (i := 0) (v := .int .i64 (ci : Int)) (by rfl)
            have d2 := RD.cell (i := 1) (v := .int .i64 (cj : Int)) (by rfl)
            have p0 := (hP.out.box.alloc (.cells #[.int .i64 (ci : Int), .int .i64 (cj : Int)] 27)).cell (i := 0) (v := .int .i64 (i : Int)) (by rfl)
            have p1 := (hP.out.box.alloc (.cells #[.int .i64 (ci : Int), .int .i64 (cj : Int)] 27)).cell (i := 1) (v := .int .i64 (j : Int)) (by rfl)
            have hen := hent ((wr.alloc (.cells #[.int .i64 (ci : Int), .int .i64 (cj : Int)] 27)).alloc (.cells #[.int .i64 (i : Int), .int .i64 (j : Int)] 27)) (((Below.refl _ _).alloc (Nat.le_refl _) _).block _ hUd.lt)
            clear hbd hU hUd hszd hU2 hpush hent RD he hcs hcx hdl q2 hb2
            simp [go_sem] at hrun
            gi_wp2
            exact ⟨⟨k + 1, by go_num, by omega, HNX⟩, by simp only [intOf]; omega⟩
          · obtain rfl : k = ml.length := by omega
            have HEND : Hid (UsrRun w W0 (w.heap.size + 1) (30 + 25 * (pre ++ [(⟨(i, j, it), hmem⟩ : El ss)]).length) (declL (placed 0 ss)) (usesF ss ((pre ++ [(⟨(i, j, it), hmem⟩ : El ss)]).map Subtype.val)) wr ∧ wr.heap[D]? = some (.deferred (some []))) := Lib.hid (by
              obtain ⟨n', hn', hU⟩ := hP.out.usr
              refine ⟨⟨hP.out.below, hP.out.cells, n', ?_, (hU.away (fun b hb => by cases hb)).same (fun d _ => ?_)⟩, hP.out.dfr⟩
              · have := HNN.out.1
                rw [List.length_append]
                simp
                omega
              · rw [HUF.out d, if_neg HKD.out, HML.out])
            have HKP := Lib.hid (And.intro hP.out.keeps (show CellsKept w.heap.size W wr from ⟨hP.out.keeps.size, fun g vs t fr hg hh => (hP.out.below.block g hg).trans ((HBW.out.block g hg).symm.trans hh)⟩))
            gi_wp2
            have hsb := HSZB.out
            rw [← hsb] at HKP
            exact ⟨HKP.out.1, HKP.out.2, HEND.out⟩
    case done2 =>
      rintro D2 xs2 Wf hD2 hS2 ⟨⟨h1, h0, n2, h2, h3⟩, hd⟩ hK2
      have c3 := ((HBU.out.below HB34.out HBU.out.lt).cells h0).cell (i := 0) (v := .map (some (w.heap.size + 1))) (by rfl)
      have HF := Lib.hid (And.intro h1 (And.intro hd hK2))
      have HU : Hid (UsrW Wf w.heap.size (w.heap.size + 1) n2 [] (declL (placed 0 ss)) (usesF ss (placed 0 ss))) := Lib.hid (by
        rw [hS2] at h3
        obtain ⟨D', g, a1, a2, a3⟩ := h3
        exact ⟨D', g, a1, a2, a3.has, a3.look, fun p hp => ownsRow_lower (a3.rows p hp) (by have := HSZ0.out; omega), a3.apart, a3.far, a3.small⟩)
      have hD2' := hD2
      clear h1 h0 h3 hd hK2 hS2
      gi_wp2
      refine ⟨by simp, .inl ⟨_, _, rfl, run_takeDeferred HF.out.2.2, ?_⟩⟩
      have hz := HSZ0.out
      have hsb := HSZB.out
      have hsw := HSW.out
      have hd1 := HDW.out.1
      have hk1 : (Wf.putObj D2 (.deferred none)).heap[D]? = some (.deferred (some [])) := (World.putObj_heap_other (by omega)).trans HF.out.2.1
      refine ⟨by simp, .inl ⟨_, _, rfl, run_takeDeferred hk1, ?_⟩⟩
      refine ⟨_, results_tmp rfl _ _ _, w.heap.size + 1, n2, rfl, ?_, ?_⟩
      · refine UsrW.kept (w := Wf.putObj D2 (.deferred none)) (HU.out.kept (CellsKept.putObj Wf D2 _ _ HF.out.2.2 rfl) (World.putObj_heap_other (by omega))) (CellsKept.putObj _ D _ _ hk1 rfl) (World.putObj_heap_other (by omega))
      · exact (HF.out.1.trans (belowK_b (w := w) (Nat.le_refl _) Wf D2 _ _ (by omega) HF.out.2.2 rfl rfl)).trans (belowK_b (w := w) (Nat.le_refl _) (Wf.putObj D2 (.deferred none)) D _ _ (by omega) hk1 rfl rfl)
    case stop2 =>
      rintro D c pre W _ _ h _
      exact h.elim
  case stop =>
    rintro D c pre W _ _ h _
    exact h.elim
-- END1
end Go.Proofs.YtimcobenmgbciaaDoor
