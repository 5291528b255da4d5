/-
  The walks of impl's (*lookup).meaning, resolutionOf and (*resolution).state. Conditions: the argument's memory holds the graph; the package-level errors hold errors.
-/
import Derived.Test.YtppgdigcopkeiaaDoorWTarget
import Derived.Test.YtppgdigcopkeiaaDoorWImplPls
import Derived.Test.YtppgdigcopkeiaaDoorRegionRound
namespace Go.Proofs.YtppgdigcopkeiaaDoor
open Go Go.RowKit Go.Maps
attribute [local go_sem] Oper.semAt_some
attribute [local go_sem ↓] field_kind field_name field_scope field_places
theorem cell_kept {w w' : World} {b o : Nat} {v : Value} (hk : CellsKept w.heap.size w w') (h : w.cell? ⟨b, o, none⟩ = some v) : w'.cell? ⟨b, o, none⟩ = some v := hk.cell (World.block_lt_of_cell? _ _ h) h
theorem ownsRow_one {W : World} {base : Nat} (hb : base ≤ W.heap.size) (i j : Int) : (W.alloc (.cells #[.int .i64 i, .int .i64 j] 34)).ownsRow base 34 2 (.slice (some ⟨W.heap.size, 0, none⟩) 1 1) 1 [.int .i64 i, .int .i64 j] :=
  ⟨by simp, .inr ⟨_, 1, _, rfl, hb, heap_alloc_new W _, Nat.le_refl _, by unfold maxLen; omega, by simp, by simp⟩⟩
set_option maxRecDepth 100000 in
set_option maxHeartbeats 4000000 in
theorem meaning_any {ss : List Sc} (hv : Valid ss) {w : World} {B L M T M1 M2 : Nat} {v : Value} {ds : List Nd} (hL : LookW w B L M T M1 M2 v ds ss) {i j : Nat} {x : It} (hq : (i, j, x) ∈ placed 0 ss) :
    Calls Tryd.prog 135 #[.pointer (some ⟨L, 0, none⟩), .agg #[.int .i64 (i : Int), .int .i64 (j : Int)], .agg #[.int .i64 x.kind, .string x.name, .int .i64 x.scope]] w (PlsLeft (meanIt ss (i, j, x)) w B L M T M1 M2 v ds ss) := by
  obtain ⟨c, hsc, hx⟩ := placed_at hq
  dsimp only at hsc hx
  have hb0 : Below w.heap.size w ((w.alloc (.cells #[.int .i64 (i : Int), .int .i64 (j : Int)] 34)).alloc (.cells #[.int .i64 x.kind, .string x.name, .int .i64 x.scope] 60)) := ((Below.refl _ _).alloc (Nat.le_refl _) _).alloc (by simp) _
  have HL1 := Lib.hid (hL.left.step hb0)
  have HS1 := Lib.hid hb0.size
  have RP := Lib.hid ((Row.new w [.int .i64 (i : Int), .int .i64 (j : Int)] 34).alloc (.cells #[.int .i64 x.kind, .string x.name, .int .i64 x.scope] 60))
  have RX : Hid (Row ((w.alloc (.cells #[.int .i64 (i : Int), .int .i64 (j : Int)] 34)).alloc (.cells #[.int .i64 x.kind, .string x.name, .int .i64 x.scope] 60)) (w.heap.size + 1) 60 [.int .i64 x.kind, .string x.name, .int .i64 x.scope]) := Lib.hid (by
    have := Row.new (w.alloc (.cells #[.int .i64 (i : Int), .int .i64 (j : Int)] 34)) [.int .i64 x.kind, .string x.name, .int .i64 x.scope] 60
    rw [World.size_alloc] at this
    exact this)
  have hsl : i < ss.length := (List.getElem?_eq_some_iff.1 hsc).1
  have hdl := hL.tree.hold.len
  obtain ⟨d, hd⟩ : ∃ d, ds[i]? = some d := ⟨_, List.getElem?_eq_getElem (by omega)⟩
  have HV := Lib.hid hv
  have HSX := Lib.hid (And.intro hsc hx)
  have HD := Lib.hid hd
  have x0 := RX.out.cell (i := 0) (by rfl)
  have x1 := RX.out.cell (i := 1) (by rfl)
  have p0 := RP.out.cell (i := 0) (by rfl)
  have p1 := RP.out.cell (i := 1) (by rfl)
  clear hv hL hq hsc hx hb0
  by_cases hk2 : x.kind = 2
  · have hq2 : (x.kind == 2) = true := by simpa using hk2
    have HE : Hid (meanIt ss (i, j, x) = (lookP ss i x.name).places) := Lib.hid (by unfold meanIt; rw [if_pos hk2])
    obtain ⟨g, cap', rfl, hgB, hg, hslot⟩ := HL1.out.look.tree.tree.slot (by intro e; rw [e] at hd; simp at hd)
    have s0 := hslot i d hd
    unfold Nd.ptr at s0
    have t0 := HL1.out.look.tree.tree.box.cell (i := 0) (by rfl)
    have l0 := HL1.out.look.box.cell (i := 0) (by rfl)
    have HLd := Lib.hid (HL1.out.step ((Below.refl _ _).drew))
    have C := Lib.hid (find_node HV.out HLd.out.look HD.out (fun m _ => target_any HV.out m) x.name)
    have hi0 : (0 : Int) ≤ (i : Int) := by omega
    have hi1 : (i : Int) < (ds.length : Int) := by omega
    clear hk2 hslot hd
    go_enter Tryd.func135, Tryd.ntmps135
    go_wp2
    generalize (w.alloc (.cells #[.int .i64 (i : Int), .int .i64 (j : Int)] 34)).alloc (.cells #[.int .i64 x.kind, .string x.name, .int .i64 x.scope] 60) = W at *
    go_region_held3 (fun w' => w'.cell? ⟨L, 0, none⟩ = some (.pointer (some ⟨T, 0, none⟩)) ∧ w'.cell? ⟨T, 0, none⟩ = some (.slice (some ⟨g, 0, none⟩) ds.length cap') ∧ w'.cell? ⟨g, i, none⟩ = some (.pointer (some ⟨d.blk, 0, none⟩)) ∧ w'.cell? ⟨w.heap.size, 0, none⟩ = some (.int .i64 (i : Int)) ∧ w'.cell? ⟨w.heap.size + 1, 1, none⟩ = some (.string x.name))
      (first | exact ⟨l0, t0, s0, p0, x1⟩ | exact ⟨cell_drew l0, cell_drew t0, cell_drew s0, cell_drew p0, cell_drew x1⟩ | exact ⟨cell_kept hc4 (cell_drew l0), cell_kept hc4 (cell_drew t0), cell_kept hc4 (cell_drew s0), cell_kept hc4 (cell_drew p0), cell_kept hc4 (cell_drew x1)⟩)
      (first | (go_at_call 103; refine C.out.mono ?_; rintro e w4 ⟨u4, rfl, hr4, hl4⟩; obtain ⟨o4, c4, rfl⟩ := ownsRow_slice hr4; have hc4 := hl4.turns.cellsM HLd.out.look.memo))
    all_goals go_wp2
    all_goals go_ret
    all_goals exact ⟨_, rfl, by rw [HE.out]; exact ownsRow_lower hr4 (Nat.le_trans HLd.out.turns.size (Nat.le_refl _)), HLd.out.trans hl4⟩
  · have hq2 : (x.kind == 2) = false := by simpa using hk2
    by_cases hk3 : x.kind = 3
    · have hq3 : (x.kind == 3) = true := by simpa using hk3
      have HE : Hid (meanIt ss (i, j, x) = meantP ss i x.name) := Lib.hid (by unfold meanIt; rw [if_neg hk2, if_pos hk3])
      have C := Lib.hid (meantBy_any HV.out HL1.out.look HSX.out.1 HSX.out.2 (fun m _ => target_any HV.out m))
      clear hk2 hk3 hd
      go_enter Tryd.func135, Tryd.ntmps135
      go_wp2_with fail
      refine C.out.mono ?_
      rintro e w4 ⟨u4, rfl, hr4, hl4⟩
      have HR4 := Lib.hid (ownsRow_lower hr4 HS1.out)
      have HL4 := Lib.hid (HL1.out.trans hl4)
      clear hr4 hl4
      go_wp2
      go_ret
      exact ⟨_, rfl, by rw [HE.out]; exact HR4.out, HL4.out⟩
    · have hq3 : (x.kind == 3) = false := by simpa using hk3
      have HE : Hid (meanIt ss (i, j, x) = [((i : Int), (j : Int))]) := Lib.hid (by unfold meanIt; rw [if_neg hk2, if_neg hk3])
      clear hk2 hk3 hd
      have hO := ownsRow_one (W := (w.alloc (.cells #[.int .i64 (i : Int), .int .i64 (j : Int)] 34)).alloc (.cells #[.int .i64 x.kind, .string x.name, .int .i64 x.scope] 60)) HS1.out (i : Int) (j : Int)
      rw [World.size_alloc, World.size_alloc] at hO
      have HO := Lib.hid hO
      clear hO
      go_enter Tryd.func135, Tryd.ntmps135
      go_wp2
      go_ret
      exact ⟨_, rfl, by rw [HE.out]; exact HO.out, HL1.out.step ((Below.refl _ _).alloc (Nat.le_refl _) _)⟩
theorem TreeIs.kept2 {w w' : World} {B T M1 M2 : Nat} {v : Value} {ds : List Nd} {ss : List Sc} (h : TreeIs w B T M1 M2 v ds ss) (hk : CellsKept w.heap.size w w') (h1 : w'.heap[M1]? = w.heap[M1]?) (h2 : w'.heap[M2]? = w.heap[M2]?) : TreeIs w' B T M1 M2 v ds ss where
  tree := h.tree.kept hk (Nat.le_refl _)
  hold := h.hold.keptC hk (Nat.le_refl _)
  pars := h.pars
  items := by obtain ⟨n, hm⟩ := h.items; exact ⟨n, ownsMap_same hm h1⟩
  mods := by obtain ⟨n, hm⟩ := h.mods; exact ⟨n, ownsMap_same hm h2⟩
  low1 := h.low1
  low2 := h.low2
theorem Row.cells {w w' : World} {g : Nat} {t : TypeId} {vs : List Value} (h : Row w g t vs) (hk : CellsKept w.heap.size w w') : Row w' g t vs := hk.block g _ _ _ h.lt h
theorem LookW.kept2 {w w' : World} {B L M T M1 M2 : Nat} {v : Value} {ds : List Nd} {ss : List Sc} (h : LookW w B L M T M1 M2 v ds ss) (hk : CellsKept w.heap.size w w') (h1 : w'.heap[M1]? = w.heap[M1]?) (h2 : w'.heap[M2]? = w.heap[M2]?) (hm : Memo w' M ss) : LookW w' B L M T M1 M2 v ds ss :=
  ⟨h.tree.kept2 hk h1 h2, h.box.cells hk, hm, h.ne1, h.ne2⟩
theorem ResW.kept2 {w w' : World} {B R T M1 M2 MR : Nat} {v : Value} {ds : List Nd} {ss : List Sc} {l : List Ent} (h : ResW w B R T M1 M2 MR v ds ss l) (hk : CellsKept w.heap.size w w') (h1 : w'.heap[M1]? = w.heap[M1]?) (h2 : w'.heap[M2]? = w.heap[M2]?) (h3 : w'.heap[MR]? = w.heap[MR]?) : ResW w' B R T M1 M2 MR v ds ss l :=
  ⟨h.tree.kept2 hk h1 h2, h.box.cells hk, h.mean.kept hk h3, h.full⟩
theorem ResW.lower {w : World} {B B' R T M1 M2 MR : Nat} {v : Value} {ds : List Nd} {ss : List Sc} {l : List Ent} (h : ResW w B R T M1 M2 MR v ds ss l) (hB : B' ≤ B) : ResW w B' R T M1 M2 MR v ds ss l :=
  ⟨{ tree := h.tree.tree.lower hB
     hold := h.tree.hold
     pars := h.tree.pars
     items := h.tree.items
     mods := h.tree.mods
     low1 := Nat.le_trans hB h.tree.low1
     low2 := Nat.le_trans hB h.tree.low2 }, h.box, h.mean.lower hB, h.full⟩
/-- What resolutionOf answers. -/
def ResGot (ss : List Sc) (w : World) (e : Ending) (w' : World) : Prop :=
  (¬ Valid ss ∧ (∃ tp p, e = .returned (.tuple #[.pointer none, .iface tp p])) ∧ Below w.heap.size w w') ∨
  (Valid ss ∧ ∃ R T M1 M2 MR v ds l, e = .returned (.tuple #[.pointer (some ⟨R, 0, none⟩), .nilIface]) ∧ Below w.heap.size w w' ∧ ResW w' w.heap.size R T M1 M2 MR v ds ss l)
/-- What holds when some meanings are laid. -/
structure ResRun (W0 : World) (B M MR : Nat) (ss : List Sc) (pre : List (Nat × Nat × It)) (W : World) : Prop where
  turns : Turns W0 W M MR
  memo : Memo W M ss
  mean : ∃ l : List Ent, l.map Prod.fst = pre ∧ MeanW W B MR ss l
theorem cells_of_grown {A B : World} {row : Option Nat} (hg : A.grownBy B row) (hr : ∀ r, row = some r → ∃ o : Obj, A.heap[r]? = some o ∧ o.isCells = false) : CellsKept A.heap.size A B :=
  ⟨hg.size, fun g vs t fr _ hh => (hg.block g (Array.getElem?_eq_some_iff.1 hh).1 (fun e => by obtain ⟨o, ho, hc⟩ := hr g e.symm; rw [hh] at ho; cases ho; cases hc)).trans hh⟩
theorem resRun_own {W0 : World} {B M MR n : Nat} {ss : List Sc} {α : Type} (f : α → List (Nat × Nat × It)) (hn : W0.heap.size ≤ n) (h1 : M < n) (h2 : MR < n) : OwnFrom n (fun (pre : α) W => ResRun W0 B M MR ss (f pre) W) :=
  fun _ A _ _ hs hg hr => by
    obtain ⟨l, hl, hm⟩ := hs.mean
    exact ⟨hs.turns.grown hg hn (fun r e => (hr r e).1), hs.memo.same (hg.block M hs.memo.lt (fun e => by have := (hr _ e.symm).1; omega)), l, hl, hm.kept (cells_of_grown hg fun r e => (hr r e).2) (hg.block MR hm.lt (fun e => by have := (hr _ e.symm).1; omega))⟩
theorem ResRun.cells {W0 W : World} {B M MR : Nat} {ss : List Sc} {pre : List (Nat × Nat × It)} (h : ResRun W0 B M MR ss pre W) (m1 : Memo W0 M ss) {l0 : List Ent} (m2 : MeanW W0 B MR ss l0) : CellsKept W0.heap.size W0 W := by
  obtain ⟨l, _, _, m⟩ := m1
  exact h.turns.cells m m2.map
theorem mean_nil {w : World} {B MR : Nat} {ss : List Sc} (h : w.ownsMap Tryd.prog 34 sliceR MR 0 (.map [])) : MeanW w B MR ss [] := ⟨h, fun e he => by cases he⟩
theorem hT1 {w : World} {B T M1 M2 : Nat} {v : Value} {ds : List Nd} {ss : List Sc} (h : TreeIs w B T M1 M2 v ds ss) : M1 < w.heap.size ∧ M2 < w.heap.size := by
  obtain ⟨_, h1⟩ := h.items
  obtain ⟨_, h2⟩ := h.mods
  exact ⟨h1.lt, h2.lt⟩
set_option maxRecDepth 100000 in
set_option maxHeartbeats 8000000 in
theorem resolutionOf_any (ss : List Sc) (hF : Fair ss) (oa : Option Addr) (cap : Nat) (w : World) (hc : HoldsScopes w oa ss) (hE : TreeErrs w) :
    Calls Tryd.prog 83 #[.agg #[.slice oa ss.length cap]] w (ResGot ss w) := by
  have hb0 := (Below.refl w.heap.size w).alloc (Nat.le_refl _) (.cells #[.slice oa ss.length cap] 30)
  have C := Lib.hid ((callsIn_wide (n := 5)).2 (hF.tree oa cap _ (hc.below hb0 (Nat.le_refl _)) (hE.below hb0 hE.size)))
  have HB0 := Lib.hid hb0
  have hmm := @run_makeMap Tryd.prog
  clear hF hc hE hb0
  refine (callsIn_wide (n := 6)).1 ?_
  refine callsIn_of_wp_marks Tryd.func83 rfl trivial ?_ rfl
  simp only [Tryd.ntmps83, List.size_toArray, List.length_cons, List.length_nil, Nat.reduceAdd, Nat.reduceSub, Array.replicate_succ, Array.replicate_zero, List.push_toArray, List.append_toArray, List.nil_append, List.cons_append]
  gi_wp2_with fail
  refine ⟨trivial, ?_⟩
  gi_at_call 114
  refine C.out.mono ?_
  rintro e w1 (⟨hv, ⟨tp, p, rfl⟩, hb⟩ | ⟨hv, T, M1, M2, v, ds, rfl, hb, hT⟩)
  · have HB := Lib.hid (HB0.out.trans (hb.mono HB0.out.size))
    have HV := Lib.hid hv
    clear hv hb hmm
    gi_wp2
    exact ⟨_, results_tmp2 rfl _ _ _, .inl ⟨HV.out, ⟨tp, p, rfl⟩, HB.out⟩⟩
  · have HB := Lib.hid (HB0.out.trans (hb.mono HB0.out.size))
    have HV := Lib.hid hv
    have HT := Lib.hid hT
    clear hv hb hT
    gi_wp2_with fail
    refine ⟨trivial, ?_⟩
    gi_at_call 105
    refine ((callsIn_wide (n := 5)).2 (lookupIn_any T _)).mono ?_
    rintro e w3 ⟨rfl, hR3, hM3, hb3⟩
    simp only [World.size_alloc] at hR3 hM3 hb3 ⊢
    have hRS : Row w3 (w1.heap.size + 1) 93 [.pointer (some ⟨T, 0, none⟩), .map (some w1.heap.size)] := by
      have h := (Row.new (w1.alloc (.map #[] 0)) [.pointer (some ⟨T, 0, none⟩), .map (some w1.heap.size)] 93).alloc (.cells #[.pointer (some ⟨w1.heap.size + 1, 0, none⟩)] 84)
      rw [World.size_alloc] at h
      exact h.below hb3 (by omega)
    have hBR : Row w3 (w1.heap.size + 1 + 1) 84 [.pointer (some ⟨w1.heap.size + 1, 0, none⟩)] := by
      have h := Row.new ((w1.alloc (.map #[] 0)).alloc (.cells #[.pointer (some ⟨T, 0, none⟩), .map (some w1.heap.size)] 93)) [.pointer (some ⟨w1.heap.size + 1, 0, none⟩)] 84
      rw [World.size_alloc, World.size_alloc] at h
      exact h.below hb3 (by omega)
    have hMW : MeanW w3 w1.heap.size w1.heap.size ss [] := by
      have h := ((World.ownsMap_made w1 Tryd.prog 34 sliceR).alloc (.cells #[.pointer (some ⟨T, 0, none⟩), .map (some w1.heap.size)] 93)).alloc (.cells #[.pointer (some ⟨w1.heap.size + 1, 0, none⟩)] 84)
      exact (mean_nil h).below (by simp only [World.size_alloc]; exact hb3)
    have hbA : Below w1.heap.size w1 w3 := ((((Below.refl w1.heap.size w1).alloc (Nat.le_refl _) (.map #[] 0)).alloc (by simp) (.cells #[.pointer (some ⟨T, 0, none⟩), .map (some w1.heap.size)] 93)).alloc (by simp; omega) (.cells #[.pointer (some ⟨w1.heap.size + 1, 0, none⟩)] 84)).trans (hb3.mono (by omega))
    have hs3 := hR3.lt
    have hM1 := hT1 HT.out
    have hLW : LookW w3 (w.heap.size + 1) (w1.heap.size + 1 + 1 + 1 + 1) (w1.heap.size + 1 + 1 + 1) T M1 M2 v ds ss := by
      have h := HT.out
      rw [World.size_alloc] at h
      exact LookW.mk (h.below hbA) hR3 (memo_nil hM3) (by omega) (by omega)
    have HRS := Lib.hid hRS
    have HBR := Lib.hid hBR
    have HMW := Lib.hid hMW
    have HBA := Lib.hid hbA
    have HLW := Lib.hid hLW
    have HM1 := Lib.hid hM1
    have HS3 := Lib.hid hs3
    clear hR3 hM3 hb3 hRS hBR hMW hbA hLW hM1 hs3 hmm
    gi_wp2_with fail
    refine ⟨trivial, ?_⟩
    gi_at_call 107
    refine ((callsIn_wide (n := 5)).2 (all_any T _)).mono ?_
    rintro e w5 ⟨rfl, rfl⟩
    have bL0 := Boxed.new w3 108 (.pointer (some ⟨w1.heap.size + 1 + 1 + 1 + 1, 0, none⟩))
    have RL0 := (Row.new w3 [.pointer (some ⟨w1.heap.size + 1 + 1 + 1 + 1, 0, none⟩)] 108).alloc (.cells #[.pointer (some ⟨T, 0, none⟩)] 91)
    have bN := Boxed.new (w3.alloc (.cells #[.pointer (some ⟨w1.heap.size + 1 + 1 + 1 + 1, 0, none⟩)] 108)) 91 (.pointer (some ⟨T, 0, none⟩))
    rw [World.size_alloc] at bN
    have hB35 : Below w3.heap.size w3 ((w3.alloc (.cells #[.pointer (some ⟨w1.heap.size + 1 + 1 + 1 + 1, 0, none⟩)] 108)).alloc (.cells #[.pointer (some ⟨T, 0, none⟩)] 91)) := ((Below.refl _ _).alloc (Nat.le_refl _) _).alloc (by simp) _
    simp only [World.size_alloc]
    have hsz : ((w3.alloc (.cells #[.pointer (some ⟨w1.heap.size + 1 + 1 + 1 + 1, 0, none⟩)] 108)).alloc (.cells #[.pointer (some ⟨T, 0, none⟩)] 91)).heap.size = w3.heap.size + 1 + 1 := by simp
    gi_wp2
    generalize hW0 : (w3.alloc (.cells #[.pointer (some ⟨w1.heap.size + 1 + 1 + 1 + 1, 0, none⟩)] 108)).alloc (.cells #[.pointer (some ⟨T, 0, none⟩)] 91) = W0 at RL0 bN hB35 hsz ⊢
    clear hW0 bL0
    have HRL := Lib.hid RL0
    have HBN := Lib.hid bN.cell
    have HB35 := Lib.hid hB35
    have HLW0 := Lib.hid (HLW.out.below hB35)
    have HMW0 := Lib.hid (HMW.out.below hB35)
    have hBx := HBA.out.trans (hB35.mono HBA.out.size)
    have HBX := Lib.hid hBx
    have hsm := HV.out.small
    have h30 := placed_bound 0 ss 6 5 HV.out.count.2 HV.out.five
    clear RL0 bN hB35
    refine wpIn_rangeFunc_ownH rfl (by omega) (gf := 148) (lb := #[.pointer (some ⟨w3.heap.size + 1, 0, none⟩)]) rfl trivial (enters_of Tryd.func148 (by kernel_rfl) rfl)
      (all_stops 5 (by omega) (w3.heap.size + 1) _ T M1 M2 v ds ss w1 _ HT.out.tree HT.out.hold (HT.out.ne HV.out) hsm.len hsm.items (.of_below hBx) HBN.out) CellsKept.trans (fun W l o o' _ h1 h2 h3 => cellsKept_b (w := w1) W l o o' (by have := HS3.out; simp at *; omega) h1 h2 h3) (Below.refl _ _) (fun _ => rfl)
      (fun pre W => ResRun W0 w1.heap.size (w1.heap.size + 1 + 1 + 1) w1.heap.size ss (pre.map Subtype.val) W)
      (fun _ _ _ => False)
      (resRun_own _ (Nat.le_refl _) (by have := HS3.out; omega) (by have := HS3.out; omega))
      (fun _ _ _ _ _ hs _ _ => hs)
      ⟨Turns.refl _ _ _, HLW0.out.memo, [], rfl, HMW0.out⟩
      (fun x a' W => ∃ Bp Bx, Row W Bp 34 [.int .i64 (x.1.1 : Int), .int .i64 (x.1.2.1 : Int)] ∧ Row W Bx 60 [.int .i64 x.1.2.2.kind, .string x.1.2.2.name, .int .i64 x.1.2.2.scope] ∧
        a' = { tmps := #[.agg #[.slice oa ss.length cap], .pointer (some ⟨w.heap.size, 0, none⟩), .pointer none, .nilIface, .pointer (some ⟨T, 0, none⟩), .nilIface, .pointer (some ⟨w1.heap.size + 1 + 1, 0, none⟩), .pointer (some ⟨w3.heap.size, 0, none⟩), .pointer (some ⟨Bp, 0, none⟩), .pointer (some ⟨Bx, 0, none⟩), .tuple #[.pointer (some ⟨T, 0, none⟩), .nilIface], .agg #[.slice oa ss.length cap], .tuple #[.pointer (some ⟨T, 0, none⟩), .nilIface], .pointer (some ⟨T, 0, none⟩), .nilIface, .nilIface, .bool false, undef, .pointer (some ⟨T, 0, none⟩), .map (some w1.heap.size), .agg #[.pointer (some ⟨T, 0, none⟩), .map (some w1.heap.size)], .pointer (some ⟨w1.heap.size + 1, 0, none⟩), .pointer (some ⟨T, 0, none⟩), .pointer (some ⟨w1.heap.size + 1 + 1 + 1 + 1, 0, none⟩), .pointer (some ⟨T, 0, none⟩), .func (.func 148) #[] #[.pointer (some ⟨w3.heap.size + 1, 0, none⟩)], .agg #[.int .i64 (x.1.1 : Int), .int .i64 (x.1.2.1 : Int)], .agg #[.int .i64 x.1.2.2.kind, .string x.1.2.2.name, .int .i64 x.1.2.2.scope], undef, undef, undef, undef, undef, undef, undef, undef, undef, undef], defers := [] })
      (fun x a' _ X Y row hs hg hr => by obtain ⟨Bp, Bx, h1, h2, h3⟩ := hs; exact ⟨Bp, Bx, h1.kept_cells hg (fun r e => (hr r e).2), h2.kept_cells hg (fun r e => (hr r e).2), h3⟩)
      ?assign ?body ?done ?stop
    case assign =>
      rintro l pre x W K hi hK
      dsimp only [elArgs]
      gi_wp2
      have ha : Below W.heap.size W ((W.alloc (.cells #[.int .i64 (x.1.1 : Int), .int .i64 (x.1.2.1 : Int)] 34)).alloc (.cells #[.int .i64 x.1.2.2.kind, .string x.1.2.2.name, .int .i64 x.1.2.2.scope] 60)) := ((Below.refl _ _).alloc (Nat.le_refl _) _).alloc (by simp) _
      obtain ⟨le, hle, hme⟩ := hi.mean
      refine hK _ _ (((KeepsOthers.alloc _ _).trans (KeepsOthers.alloc _ _)).from _) ((CellsKept.of_below ha).mono (Nat.le_trans HBX.out.size hi.turns.size)) ⟨hi.turns.trans (.of_below ha), hi.memo.below ha, le, hle, hme.below ha⟩ ⟨W.heap.size, W.heap.size + 1, ?_, ?_, rfl⟩
      · exact (Row.new W [.int .i64 (x.1.1 : Int), .int .i64 (x.1.2.1 : Int)] 34).alloc _
      · have := Row.new (W.alloc (.cells #[.int .i64 (x.1.1 : Int), .int .i64 (x.1.2.1 : Int)] 34)) [.int .i64 x.1.2.2.kind, .string x.1.2.2.name, .int .i64 x.1.2.2.scope] 60
        rw [World.size_alloc] at this
        exact this
    case body =>
      rintro l pre x a' W hl _ hi ⟨Bp, Bx, hp, hx, rfl⟩ hlen
      obtain ⟨⟨i, j, it⟩, hmem⟩ := x
      dsimp only at hp hx ⊢
      have hck := hi.cells HLW0.out.memo HMW0.out
      have hw1 := HBX.out.size
      have hM := HM1.out
      have h3 := HS3.out
      have hLWW := HLW0.out.kept2 hck (hi.turns.rest M1 (by omega) (by omega) (by omega)) (hi.turns.rest M2 (by omega) (by omega) (by omega)) hi.memo
      have c0 := ((HRS.out.below HB35.out HRS.out.lt).cells hck).cell (i := 1) (by rfl)
      have c1 := ((HBR.out.below HB35.out HBR.out.lt).cells hck).cell (i := 0) (by rfl)
      have c2 := (HRL.out.cells hck).cell (i := 0) (by rfl)
      have p0 := hp.cell (i := 0) (by rfl)
      have p1 := hp.cell (i := 1) (by rfl)
      have x0 := hx.cell (i := 0) (by rfl)
      have x1 := hx.cell (i := 1) (by rfl)
      have x2 := hx.cell (i := 2) (by rfl)
      have C2 := Lib.hid ((callsIn_wide (n := 3)).2 (meaning_any HV.out (hLWW.below ((Below.refl _ _).drew)) hmem))
      have HI := Lib.hid hi
      have HLWW := Lib.hid hLWW
      have HMEM := Lib.hid hmem
      have HLEN := Lib.hid hlen
      clear hck hi hLWW hp hx hM
      gi_wp2
      refine wpIn_region_kept (F := Fence.wide) (S := fun w' => w'.cell? ⟨w1.heap.size + 1, 1, none⟩ = some (.map (some w1.heap.size)) ∧ w'.cell? ⟨w1.heap.size + 1 + 1, 0, none⟩ = some (.pointer (some ⟨w1.heap.size + 1, 0, none⟩)) ∧ w'.cell? ⟨w3.heap.size, 0, none⟩ = some (.pointer (some ⟨w1.heap.size + 1 + 1 + 1 + 1, 0, none⟩)) ∧
        w'.cell? ⟨Bp, 0, none⟩ = some (.int .i64 (i : Int)) ∧ w'.cell? ⟨Bp, 1, none⟩ = some (.int .i64 (j : Int)) ∧ w'.cell? ⟨Bx, 0, none⟩ = some (.int .i64 it.kind) ∧ w'.cell? ⟨Bx, 1, none⟩ = some (.string it.name) ∧ w'.cell? ⟨Bx, 2, none⟩ = some (.int .i64 it.scope)) 1000 l (by kernel_rfl) (by kernel_rfl) ?_
      have hS0 := And.intro (cell_drew c0) (And.intro (cell_drew c1) (And.intro (cell_drew c2) (And.intro (cell_drew p0) (And.intro (cell_drew p1) (And.intro (cell_drew x0) (And.intro (cell_drew x1) (cell_drew x2)))))))
      refine KeptAny.take (i := 0) (v := ?_) (by kernel_rfl) rfl rfl (by kernel_rfl) (by kernel_rfl) (by kernel_rfl) (fun _ _ _ h => h) (by rfl) (fun w' hw' => ?_) (fun _ => rfl) hS0 ?_
      rotate_left
      · (obtain ⟨s0, s1, s2, s3, s4, s5, s6, s7⟩ := hw'; go_simp; try with_reducible rfl)
      refine KeptAny.take (i := 1) (v := ?_) (by kernel_rfl) rfl rfl (by kernel_rfl) (by kernel_rfl) (by kernel_rfl) (fun _ _ _ h => h) (by rfl) (fun w' hw' => ?_) (fun _ => rfl) hS0 ?_
      rotate_left
      · (obtain ⟨s0, s1, s2, s3, s4, s5, s6, s7⟩ := hw'; go_simp; try with_reducible rfl)
      refine KeptAny.take (i := 2) (v := ?_) (by kernel_rfl) rfl rfl (by kernel_rfl) (by kernel_rfl) (by kernel_rfl) (fun _ _ _ h => h) (by rfl) (fun w' hw' => ?_) (fun _ => rfl) hS0 ?_
      rotate_left
      · (obtain ⟨s0, s1, s2, s3, s4, s5, s6, s7⟩ := hw'; go_simp; try with_reducible rfl)
      refine KeptAny.take (i := 3) (v := ?_) (by kernel_rfl) rfl rfl (by kernel_rfl) (by kernel_rfl) (by kernel_rfl) (fun _ _ _ h => h) (by rfl) (fun w' hw' => ?_) (fun _ => rfl) hS0 ?_
      rotate_left
      · (obtain ⟨s0, s1, s2, s3, s4, s5, s6, s7⟩ := hw'; go_simp; try with_reducible rfl)
      refine KeptAny.take (i := 4) (v := ?_) (by kernel_rfl) rfl rfl (by kernel_rfl) (by kernel_rfl) (by kernel_rfl) (fun _ _ _ h => h) (by rfl) (fun w' hw' => ?_) (fun _ => rfl) hS0 ?_
      rotate_left
      · (obtain ⟨s0, s1, s2, s3, s4, s5, s6, s7⟩ := hw'; go_simp; try with_reducible rfl)
      refine KeptAny.take (i := 5) (v := ?_) (by kernel_rfl) rfl rfl (by kernel_rfl) (by kernel_rfl) (by kernel_rfl) (fun _ _ _ h => h) (by rfl) (fun w' hw' => ?_) (fun _ => rfl) hS0 ?_
      rotate_left
      · (obtain ⟨s0, s1, s2, s3, s4, s5, s6, s7⟩ := hw'; go_simp; try with_reducible rfl)
      refine KeptAny.take (i := 6) (v := ?_) (by kernel_rfl) rfl rfl (by kernel_rfl) (by kernel_rfl) (by kernel_rfl) (fun _ _ _ h => h) (by rfl) (fun w' hw' => ?_) (fun _ => rfl) hS0 ?_
      rotate_left
      · (obtain ⟨s0, s1, s2, s3, s4, s5, s6, s7⟩ := hw'; go_simp; try with_reducible rfl)
      refine KeptAny.take (i := 7) (v := ?_) (by kernel_rfl) rfl rfl (by kernel_rfl) (by kernel_rfl) (by kernel_rfl) (fun _ _ _ h => h) (by rfl) (fun w' hw' => ?_) (fun _ => rfl) hS0 ?_
      rotate_left
      · (obtain ⟨s0, s1, s2, s3, s4, s5, s6, s7⟩ := hw'; go_simp; try with_reducible rfl)
      refine KeptAny.one (i := 8) (by kernel_rfl) rfl (by rfl) (fun K hK => ?_)
      go_simp
      refine ⟨trivial, ?_⟩
      refine C2.out.mono ?_
      rintro e w4 ⟨u, rfl, hu, hl4⟩
      obtain ⟨le, hle, hme⟩ := HI.out.mean
      have hck4 : CellsKept W.drew.heap.size W.drew w4 := hl4.turns.cellsM (ss := ss) (HLWW.out.memo.below ((Below.refl _ _).drew))
      have hme4 := (hme.below ((Below.refl _ _).drew)).kept hck4 (hl4.turns.rest w1.heap.size (by have := HI.out.turns.size; show w1.heap.size < W.heap.size; omega) (by omega) (by omega))
      have hll : le.length < 1000 := by
        have h1 := congrArg List.length hle
        rw [List.length_map, List.length_map] at h1
        have h2 := HLEN.out
        omega
      obtain ⟨w6, hrun6, hme6, hg6⟩ := mean_put HV.out hme4 hll HMEM.out (ownsRow_lower hu (show w1.heap.size ≤ W.heap.size by have := HI.out.turns.size; omega))
      have hS4 := And.intro (cell_kept hck4 (cell_drew c0)) (And.intro (cell_kept hck4 (cell_drew c1)) (And.intro (cell_kept hck4 (cell_drew c2)) (And.intro (cell_kept hck4 (cell_drew p0)) (And.intro (cell_kept hck4 (cell_drew p1)) (And.intro (cell_kept hck4 (cell_drew x0)) (And.intro (cell_kept hck4 (cell_drew x1)) (cell_kept hck4 (cell_drew x2))))))))
      have hck6 : CellsKept w4.heap.size w4 w6 := cells_of_grown hg6 (fun r e => by
        cases e
        obtain ⟨es, clock, h1, _⟩ := hme4.map
        exact ⟨_, h1, rfl⟩)
      have hT46 : Turns W w6 (w1.heap.size + 1 + 1 + 1) w1.heap.size := ((Turns.of_below ((Below.refl W.heap.size W).drew)).trans ⟨hl4.turns.os, hl4.turns.tape, hl4.turns.output, hl4.turns.size, fun g hg h1 _ => hl4.turns.rest g hg h1 h1⟩).trans (.of_grown hg6 (.inr rfl))
      have HEND : Hid (ResRun W0 w1.heap.size (w1.heap.size + 1 + 1 + 1) w1.heap.size ss ((pre ++ [(⟨(i, j, it), HMEM.out⟩ : El ss)]).map Subtype.val) w6) := Lib.hid
        ⟨HI.out.turns.trans hT46, hl4.look.memo.same (hg6.block _ hl4.look.memo.lt (fun e => by have := Option.some.inj e; omega)), le ++ [((i, j, it), u)], by rw [List.map_append, List.map_append, hle]; rfl, hme6⟩
      have HT46 := Lib.hid hT46
      have HC46 : Hid (CellsKept W.heap.size W w6) := Lib.hid (by
        obtain ⟨lm, _, _, m⟩ := HI.out.memo
        exact hT46.cells m hme.map)
      refine hK.out _ _ hS4 (fun hS => ?_)
      refine KeptAny.one (i := 9) (by kernel_rfl) rfl (by rfl) (fun K' hK' => ?_)
      have HCK6 := Lib.hid hck6
      have HS := Lib.hid hS
      clear hme hme4 hme6 hg6 hT46 hl4 hu hle C2 hK hck6 hck4
      go_simp
      refine hK'.out _ _ ?_ (fun _ => ?_)
      · obtain ⟨s0, s1, s2, s3, s4, s5, s6, s7⟩ := HS.out
        exact ⟨cell_kept HCK6.out s0, cell_kept HCK6.out s1, cell_kept HCK6.out s2, cell_kept HCK6.out s3, cell_kept HCK6.out s4, cell_kept HCK6.out s5, cell_kept HCK6.out s6, cell_kept HCK6.out s7⟩
      refine KeptAny.done (by kernel_rfl) ?_ _
      gi_wp2
      exact ⟨HT46.out.keepsFrom (by omega) (by omega), HC46.out.mono (Nat.le_trans hw1 HI.out.turns.size), HEND.out⟩
    case done =>
      rintro D xs W hD hS hi hK
      have hck := hi.cells HLW0.out.memo HMW0.out
      have hw1 := HBX.out.size
      have hM := HM1.out
      have h3 := HS3.out
      have c1 := ((HBR.out.below HB35.out HBR.out.lt).cells hck).cell (i := 0) (v := .pointer (some ⟨w1.heap.size + 1, 0, none⟩)) (by rfl)
      have hBW : Below w.heap.size w W := (HB.out.trans (HBX.out.mono HB.out.size)).trans (hi.turns.below (by have := HB.out.size; omega) (by have := HB.out.size; omega) (by have := HB.out.size; omega))
      obtain ⟨le, hle, hme⟩ := hi.mean
      have hRW : ResW W w.heap.size (w1.heap.size + 1) T M1 M2 w1.heap.size v ds ss le :=
        ⟨{ tree := (HLW0.out.tree.tree.lower (by omega)).kept hck (Nat.le_refl _)
           hold := HLW0.out.tree.hold.keptC hck (Nat.le_refl _)
           pars := HLW0.out.tree.pars
           items := by obtain ⟨n, h⟩ := HLW0.out.tree.items; exact ⟨n, ownsMap_same h (hi.turns.rest M1 (by omega) (by omega) (by omega))⟩
           mods := by obtain ⟨n, h⟩ := HLW0.out.tree.mods; exact ⟨n, ownsMap_same h (hi.turns.rest M2 (by omega) (by omega) (by omega))⟩
           low1 := Nat.le_trans (by omega) HLW0.out.tree.low1
           low2 := Nat.le_trans (by omega) HLW0.out.tree.low2 }, (HRS.out.below HB35.out HRS.out.lt).cells hck, hme.lower HB.out.size, by rw [hle, hS]⟩
      have hDD : W0.heap.size ≤ D := by omega
      have HRW := Lib.hid hRW
      have HBW := Lib.hid hBW
      have HK := Lib.hid hK
      clear hi hck hRW hBW hme hle hS hD
      gi_wp2
      refine ⟨by simp, .inl ⟨_, _, rfl, run_takeDeferred HK.out, ?_⟩⟩
      refine ⟨_, results_tmp2 rfl _ _ _, .inr ⟨HV.out, w1.heap.size + 1, T, M1, M2, w1.heap.size, v, ds, le, rfl, HBW.out.trans (belowK_b (w := w) (Nat.le_refl _) W D _ _ (by have := HB.out.size; omega) HK.out rfl rfl), ?_⟩⟩
      exact HRW.out.kept2 (CellsKept.putObj W D _ _ HK.out rfl) (World.putObj_heap_other (by omega)) (World.putObj_heap_other (by omega)) (World.putObj_heap_other (by omega))
    case stop =>
      rintro D c pre W _ _ h _
      exact h.elim
end Go.Proofs.YtppgdigcopkeiaaDoor
