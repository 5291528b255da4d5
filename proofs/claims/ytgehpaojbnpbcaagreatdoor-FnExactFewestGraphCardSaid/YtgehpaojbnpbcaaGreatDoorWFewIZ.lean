/-
  The walk of impl's FewestNames. Conditions: the graph lies in memory and is fair; the errors lie where they were laid.
-/
import Derived.Test.YtgehpaojbnpbcaaGreatDoorJRZ
import Derived.Test.YtgehpaojbnpbcaaGreatDoorJSZ
import Derived.Test.YtgehpaojbnpbcaaGreatDoorJPZ
namespace Go.Proofs.YtgehpaojbnpbcaaGreatDoor
open Go Go.RowKit Go.Maps
attribute [local go_sem] Oper.semAt_some
theorem first_calm {F : Fence} {n : Nat} {P : Program} {c : Code} {a : Act} {w : World} {K : Act → World → Prop} {Q : Exit → Act → World → Prop} (h : c.wpIn F n P (Exit.then K fun _ _ _ => False) a w) : c.wpIn F n P (Exit.then K Q) a w :=
  wpIn_mono h (by
    intro e a w h
    cases e <;> first | exact h | exact h.elim)
abbrev colD (D : Nat) : Deferred := { target := .collected D, args := #[] }
/-- The blocks for deferred calls that ranges over functions have left on the frame. -/
structure DsOk (B : Nat) (W : World) (Ds : List Nat) : Prop where
  nodup : Ds.Nodup
  at_ : ∀ D ∈ Ds, B ≤ D ∧ W.heap[D]? = some (.deferred (some []))
theorem DsOk.below {B : Nat} {W W' : World} {Ds : List Nat} (h : DsOk B W Ds) (hb : Below W.heap.size W W') : DsOk B W' Ds :=
  ⟨h.nodup, fun D hD => ⟨(h.at_ D hD).1, (hb.block D (Array.getElem?_eq_some_iff.1 (h.at_ D hD).2).1).trans (h.at_ D hD).2⟩⟩
theorem DsOk.lt {B : Nat} {W : World} {Ds : List Nat} (h : DsOk B W Ds) {D : Nat} (hD : D ∈ Ds) : D < W.heap.size := (Array.getElem?_eq_some_iff.1 (h.at_ D hD).2).1
theorem DsOk.cons {B D : Nat} {W : World} {Ds : List Nat} (h : DsOk B W Ds) (hB : B ≤ D) (hD : W.heap[D]? = some (.deferred (some []))) (hne : ∀ E ∈ Ds, E < D) : DsOk B W (D :: Ds) :=
  ⟨List.nodup_cons.2 ⟨fun hm => Nat.lt_irrefl _ (hne D hm), h.nodup⟩, fun E hE => by
    rcases List.mem_cons.1 hE with rfl | hE
    · exact ⟨hB, hD⟩
    · exact h.at_ E hE⟩
theorem leaves_all {F : Fence} {n : Nat} {P : Program} {fn : Func} {tmps : Array Value} {R : Ending → World → Prop} {B : Nat} (J : World → Prop) (hJ : ∀ W D, J W → B ≤ D → J (W.putObj D (.deferred none))) (hend : ∀ W, J W → LeavesInM F n P fn tmps R [] .returning W) :
    ∀ (Ds : List Nat) (W : World), J W → DsOk B W Ds → LeavesInM F n P fn tmps R (Ds.map colD) .returning W
  | [], W, h, _ => hend W h
  | D :: Ds, W, h, hd => by
    obtain ⟨hB, hh⟩ := hd.at_ D List.mem_cons_self
    refine ⟨by simp, .inl ⟨_, _, rfl, run_takeDeferred hh, leaves_all J hJ hend Ds _ (hJ W D h hB) ⟨(List.nodup_cons.1 hd.nodup).2, fun E hE => ?_⟩⟩⟩
    have hne : E ≠ D := by rintro rfl; exact (List.nodup_cons.1 hd.nodup).1 hE
    exact ⟨(hd.at_ E (List.mem_cons_of_mem _ hE)).1, (World.putObj_heap_other hne).trans (hd.at_ E (List.mem_cons_of_mem _ hE)).2⟩
theorem wpIn_st_any {P : Program} {F : Fence} {n : Nat} {w : World} {o : Oper} {a : Act} {K : Act → World → Prop} {Q : Exit → Act → World → Prop} (ty : TypeId) (x y : Operand) (ho : o.op = .store ty x y) (hab : o.about P w a.eval = none)
    (g : Nat) (cells : Array Value) (hx : a.eval x = .pointer (some ⟨g, 0, none⟩)) (hy : a.eval y = .agg cells)
    (t : TypeId) (old : Array Value) (hg : w.heap[g]? = some (.cells old t (0, 0))) (hi : (P.info? ty).map (·.size) = some cells.size)
    (hold : old.size = cells.size) (h1 : cells.all (·.oneCell') = true)
    (h : K (a.put o.dst undef) (w.setRow g cells)) : o.wpIn F n P a w K Q := by
  refine ⟨fun f hf => (by rw [hab] at hf; cases hf), ?_⟩
  rw [Oper.semAt_eq _ _ _ (fun c => by rw [ho]; exact fun h => by cases h)]
  unfold execOp
  simp only [ho, hx, hy, Instr.storeAt, Instr.sureAddr, Sem.run_bind, Sem.run_pure, Result.andThen_ok, run_storeVar_row w g t ty old cells hg hi hold h1]
  exact h
theorem wpListIn_st_any {F : Fence} {P : Program} {n : Nat} {ops : Array Oper} {rest : List Oper} {o : Oper} {a : Act} {w : World} {Q : Exit → Act → World → Prop} (hgd : o.guard = none) (ty : TypeId) (x y : Operand) (ho : o.op = .store ty x y) (hab : o.about P w a.eval = none)
    (g : Nat) (cells : Array Value) (hx : a.eval x = .pointer (some ⟨g, 0, none⟩)) (hy : a.eval y = .agg cells)
    (t : TypeId) (old : Array Value) (hg : w.heap[g]? = some (.cells old t (0, 0))) (hi : (P.info? ty).map (·.size) = some cells.size)
    (hold : old.size = cells.size) (h1 : cells.all (·.oneCell') = true)
    (h : wpListIn F n P ops Q rest (a.put o.dst undef) (w.setRow g cells)) : wpListIn F n P ops Q (o :: rest) a w :=
  wpListIn_plain hgd fun _ hK => wpIn_st_any ty x y ho hab g cells hx hy t old hg hi hold h1 (hK _ _ h)
theorem exec_load_row5 {P : Program} {w : World} {o : Oper} {a : Act} (ty : TypeId) (x : Operand) (ho : o.op = .load ty x)
    (g : Nat) (hx : a.eval x = .pointer (some ⟨g, 0, none⟩)) (t : TypeId) (cs : Array Value) (fr : Nat × Nat) (d : TypeDesc) (hg : w.heap[g]? = some (.cells cs t fr))
    (hu : P.underlying ty = some d) (hd : (match d with | .struct _ | .array _ _ => true | _ => false) = true) (hi : (P.info? ty).map (·.size) = some cs.size) : (execOp a.eval o).run P w = .ok (.value (.agg cs)) w := by
  unfold execOp
  simp only [ho, hx, Instr.loadAt, Instr.sureAddr, Sem.run_bind, Sem.run_pure, Result.andThen_ok, run_loadVar_row w g t ty cs fr d hg hu hd hi]
theorem cfw_set {ss : List Sc} {w : World} {M n : Nat} {dl : List (Int × Int)} (h : CfW ss w M n dl) {x : Nat} {t : TypeId} {cs : List Value} (hr : Row w x t cs) (v : Value) : CfW ss (w.setCell ⟨x, 0, none⟩ v) M n dl := by
  obtain ⟨D, h1, h2⟩ := h
  have hne : M ≠ x := by
    rintro rfl
    obtain ⟨es, clock, he, -⟩ := h1
    unfold Row at hr
    rw [hr] at he
    cases he
  exact ⟨D, ownsMap_same h1 (Below.heap_setCell _ _ _ _ hne), h2⟩
set_option maxRecDepth 100000 in
set_option maxHeartbeats 8000000 in
theorem implFewest_any (ss : List Sc) (hF : Fair ss) (oa : Option Addr) (cap : Nat) (w : World) (hc : HoldsScopes w oa ss) (hE : FewErrs w) :
    Calls Tryz.prog 24 #[.agg #[.slice oa ss.length cap]] w fun e w' => e = .returned (.tuple #[.string (fewR ss).1, .bool (fewR ss).2]) ∧ Below w.heap.size w w' := by
  have hb0 := (((Below.refl w.heap.size w).alloc (Nat.le_refl _) (.cells #[.slice oa ss.length cap] 28)).alloc (by simp) (.cells #[.string ⟨#[]⟩] 9)).alloc (by simp; omega) (.cells #[.bool false] 4)
  have R1 := ((Row.new w [.slice oa ss.length cap] 28).alloc (.cells #[.string ⟨#[]⟩] 9)).alloc (.cells #[.bool false] 4)
  have R2 := (Row.new (w.alloc (.cells #[.slice oa ss.length cap] 28)) [.string ⟨#[]⟩] 9).alloc (.cells #[.bool false] 4)
  have R3 := Row.new ((w.alloc (.cells #[.slice oa ss.length cap] 28)).alloc (.cells #[.string ⟨#[]⟩] 9)) [.bool false] 4
  rw [World.size_alloc] at R2
  rw [World.size_alloc, World.size_alloc] at R3
  have R2 := Lib.hid R2
  have R3 := Lib.hid R3
  have g1 := R1.cell (i := 0) (v := .slice oa ss.length cap) (by rfl)
  have C := Lib.hid ((callsIn_wide (n := 5)).2 (nameableUpTo_any ss hF oa cap 7 _ (hc.below hb0 (Nat.le_refl _)) (hE.at hb0)))
  have HB := Lib.hid hb0
  have HF := Lib.hid hF
  have HE := Lib.hid hE
  clear hb0 hF hc hE R1
  refine (callsIn_wide (n := 6)).1 ?_
  refine callsIn_of_wp_marks Tryz.func24 rfl trivial ?_ rfl
  simp only [Tryz.ntmps24, List.size_toArray, List.length_cons, List.length_nil, Nat.reduceAdd, Nat.reduceSub, Array.replicate_succ, Array.replicate_zero, List.push_toArray, List.append_toArray, List.nil_append, List.cons_append]
  gi_wp2_with fail
  first | refine ⟨trivial, ?_⟩ | skip
  refine C.out.mono ?_
  rintro e w1 (⟨hn, ⟨tp, p, rfl⟩, hb1⟩ | ⟨hle, N, od, cd, rfl, hN, hb1⟩)
  · have HR : Hid (fewR ss = (⟨#[]⟩, false)) := Lib.hid (by unfold fewR FewOk; rw [if_neg hn])
    have HB1 := Lib.hid (HB.out.trans (hb1.mono HB.out.size))
    have S2 := R2.out.below hb1 R2.out.lt
    have S3 := R3.out.below hb1 R3.out.lt
    have c2 := S2.cell (i := 0) (v := .string ⟨#[]⟩) (by rfl)
    have c3 := S3.cell (i := 0) (v := .bool false) (by rfl)
    have f2 := S2.frozen 0
    have f3 := S3.frozen 0
    have l2 := S2.lt
    have l3 := S3.lt
    have HZ := Lib.hid (((HB1.out.setCell (p := ⟨w.heap.size + 1, 0, none⟩) (Nat.le_succ _) (.string ⟨#[]⟩)).setCell (p := ⟨w.heap.size + 1 + 1, 0, none⟩) (by show w.heap.size ≤ w.heap.size + 1 + 1; omega) (.bool false)).alloc (by simp; omega) (.cells #[.pointer none] 69))
    have T2 := (((S2.set 0 (.string ⟨#[]⟩)).other (a := ⟨w.heap.size + 1 + 1, 0, none⟩) (by show w.heap.size + 1 + 1 ≠ w.heap.size + 1; omega) (.bool false)).alloc (.cells #[.pointer none] 69)).cell (i := 0) (v := .string ⟨#[]⟩) (by rfl)
    have T3 := (((S3.other (a := ⟨w.heap.size + 1, 0, none⟩) (by show w.heap.size + 1 ≠ w.heap.size + 1 + 1; omega) (.string ⟨#[]⟩)).set 0 (.bool false)).alloc (.cells #[.pointer none] 69)).cell (i := 0) (v := .bool false) (by rfl)
    clear hb1 hn g1 R2 R3 S2 S3
    gi_wp2
    exact ⟨.tuple #[.string ⟨#[]⟩, .bool false], by simp [results, Tryz.results24, go_sem, T2, T3], by rw [HR.out], HZ.out⟩
  · have HB1 := Lib.hid (HB.out.trans (hb1.mono HB.out.size))
    have hba := (Below.refl w1.heap.size w1).alloc (Nat.le_refl _) (.cells #[.pointer (some ⟨N, 0, none⟩)] 69)
    have r4 := Row.new w1 [.pointer (some ⟨N, 0, none⟩)] 69
    have S2 := Lib.hid ((R2.out.below hb1 R2.out.lt).below hba (R2.out.below hb1 R2.out.lt).lt)
    have S3 := Lib.hid ((R3.out.below hb1 R3.out.lt).below hba (R3.out.below hb1 R3.out.lt).lt)
    have HLE := Lib.hid hle
    have HN2 := Lib.hid (hN.below hba)
    have HW2 := Lib.hid (HB1.out.trans (hba.mono HB1.out.size))
    clear hb1 hN hle g1 hba R2 R3
    gi_wp2
    have b4 := r4.cell (i := 0) (v := .pointer (some ⟨N, 0, none⟩)) (by rfl)
    have b4l := r4.lt
    have nd := HN2.out.box.cell nbL_dcl
    have nl := HN2.out.box.lt
    generalize w1.alloc (.cells #[.pointer (some ⟨N, 0, none⟩)] 69) = w2 at *
    gi_cut [6, 7] from 17 (fun s6 s7 wx => ∃ x6 x7 M nM, s6 = .pointer (some ⟨x6, 0, none⟩) ∧ s7 = .pointer (some ⟨x7, 0, none⟩) ∧ w2.heap.size ≤ x6 ∧ w2.heap.size ≤ x7 ∧ x6 ≠ x7 ∧ Row wx x6 75 [.map (some M)] ∧ Row wx x7 3 [.int .i64 ((dclP ss).length : Int)] ∧ CfW ss wx M nM (dclP ss) ∧ Below w2.heap.size w2 wx)
    case first =>
      refine first_calm (wpIn_wide.2 (wp_region_kept (S := fun w' => Below w2.heap.size w2 w') 99 (by kernel_rfl) ?_))
      have HB0 := Lib.hid ((Below.refl w2.heap.size w2).drew)
      generalize w2.drew = v0 at *
      have hS0 := HB0.out
      refine KeptAny.tk (v := ?_) 0 hS0 (fun w' hw' => ?_) ?_
      rotate_left
      · (have g0 := (hw'.cell (p := ⟨w1.heap.size, 0, none⟩) b4l).trans b4; go_simp; try with_reducible rfl)
      refine KeptAny.tk (v := ?_) 2 hS0 (fun w' hw' => ?_) ?_
      rotate_left
      · (have g0 := (hw'.cell (p := ⟨w1.heap.size, 0, none⟩) b4l).trans b4; go_simp; try with_reducible rfl)
      refine KeptAny.tk (v := ?_) 3 hS0 (fun w' hw' => ?_) ?_
      rotate_left
      · (go_simp; try with_reducible rfl)
      refine KeptAny.tk (v := ?_) 4 hS0 (fun w' hw' => ?_) ?_
      rotate_left
      · (go_simp; try with_reducible rfl)
      refine KeptAny.tk (v := ?_) 5 hS0 (fun w' hw' => ?_) ?_
      rotate_left
      · (have g0 := (hw'.cell (p := ⟨N, 31, none⟩) nl).trans nd; go_simp; try with_reducible rfl)
      refine KeptAny.tk (v := ?_) 6 hS0 (fun w' hw' => ?_) ?_
      rotate_left
      · (go_simp; try with_reducible rfl)
      clear hS0
      refine KeptAny.three (i := 1) (j := 7) (m := 8) (by kernel_rfl) ⟨_, rfl, by kernel_rfl, fun K hK => ?_⟩ ⟨_, rfl, by kernel_rfl, fun K hK => ?_⟩ ⟨_, rfl, by kernel_rfl, fun K hK => ?_⟩
      · go_simp
        refine ⟨trivial, ?_⟩
        refine ((callsIn_wide (n := 5)).2 (conflicts_any ss HF.out oa od cap cd N (by have := HLE.out; omega) _ (HN2.out.below HB0.out) (HE.out.at (HW2.out.trans (HB0.out.mono HW2.out.size))).nmg)).mono ?_
        rintro e v1 ⟨M, nM, rfl, hcf, hb⟩
        have HB1 := Lib.hid (HB0.out.trans (hb.mono HB0.out.size))
        have CF1 := Lib.hid hcf
        refine hK.out _ _ HB1.out (fun _ => ?_)
        clear hK hb hcf
        refine KeptAny.two (i := 7) (j := 8) (by kernel_rfl) ⟨_, rfl, by kernel_rfl, fun K hK => ?_⟩ ⟨_, rfl, by kernel_rfl, fun K hK => ?_⟩
        · go_simp
          have hb := (Below.refl v1.heap.size v1).alloc (Nat.le_refl _) (.cells #[.map none] 75)
          have HB2 := Lib.hid (HB1.out.trans (hb.mono HB1.out.size))
          have R6_2 := Lib.hid (Row.new v1 [.map none] 75)
          have CF2 := Lib.hid (CF1.out.below hb)
          have hx6 : w2.heap.size ≤ v1.heap.size := HB1.out.size
          refine hK.out _ _ HB2.out (fun _ => ?_)
          clear hK hb
          generalize v1.alloc (.cells #[.map none] 75) = v2 at *
          generalize v1.heap.size = x6 at *
          refine KeptAny.one (i := 8) (by kernel_rfl) rfl (by kernel_rfl) (fun K hK => ?_)
          go_simp
          have hb := (Below.refl v2.heap.size v2).alloc (Nat.le_refl _) (.cells #[.int .i64 0] 3)
          have HB3 := Lib.hid (HB2.out.trans (hb.mono HB2.out.size))
          have R7_3 := Lib.hid (Row.new v2 [.int .i64 0] 3)
          have R6_3 := Lib.hid (R6_2.out.below hb R6_2.out.lt)
          have hne : x6 ≠ v2.heap.size := Nat.ne_of_lt R6_2.out.lt
          have CF3 := Lib.hid (CF2.out.below hb)
          have hx7 : w2.heap.size ≤ v2.heap.size := HB2.out.size
          refine hK.out _ _ HB3.out (fun _ => ?_)
          clear hK hb
          generalize v2.alloc (.cells #[.int .i64 0] 3) = v3 at *
          generalize v2.heap.size = x7 at *
          refine KeptAny.one (i := 9) (by kernel_rfl) rfl (by kernel_rfl) (fun K hK => ?_)
          have ff := R6_3.out.frozen 0
          have fl := R6_3.out.lt
          have fc := R6_3.out.cell (i := 0) (v := .map none) (by rfl)
          go_simp
          have HB4 := Lib.hid (HB3.out.setCell (p := ⟨x6, 0, none⟩) hx6 (.map (some M)))
          have R6_4 := Lib.hid (R6_3.out.set 0 (.map (some M)))
          have R7_4 := Lib.hid (R7_3.out.other (a := ⟨x6, 0, none⟩) (by show x6 ≠ x7; omega) (.map (some M)))
          have CF4 := Lib.hid (cfw_set CF3.out R6_3.out (.map (some M)))
          refine hK.out _ _ HB4.out (fun _ => ?_)
          clear hK ff fl fc
          generalize v3.setCell ⟨x6, 0, none⟩ (.map (some M)) = v4 at *
          refine KeptAny.one (i := 10) (by kernel_rfl) rfl (by kernel_rfl) (fun K hK => ?_)
          have ff := R7_4.out.frozen 0
          have fl := R7_4.out.lt
          have fc := R7_4.out.cell (i := 0) (v := .int .i64 0) (by rfl)
          go_simp
          have HB5 := Lib.hid (HB4.out.setCell (p := ⟨x7, 0, none⟩) hx7 (.int .i64 ((dclP ss).length : Int)))
          have R7_5 := Lib.hid (R7_4.out.set 0 (.int .i64 ((dclP ss).length : Int)))
          have R6_5 := Lib.hid (R6_4.out.other (a := ⟨x7, 0, none⟩) (by show x7 ≠ x6; omega) (.int .i64 ((dclP ss).length : Int)))
          have CF5 := Lib.hid (cfw_set CF4.out R7_4.out (.int .i64 ((dclP ss).length : Int)))
          refine hK.out _ _ HB5.out (fun _ => ?_)
          clear hK ff fl fc
          generalize v4.setCell ⟨x7, 0, none⟩ (.int .i64 ((dclP ss).length : Int)) = v5 at *
          refine KeptAny.done (by kernel_rfl) ?_ _
          gi_wp2
          gi_meet
          exact ⟨x6, x7, M, nM, rfl, rfl, hx6, hx7, by omega, R6_5.out, R7_5.out, CF5.out, HB5.out⟩
        · go_simp
          have hb := (Below.refl v1.heap.size v1).alloc (Nat.le_refl _) (.cells #[.int .i64 0] 3)
          have HB6 := Lib.hid (HB1.out.trans (hb.mono HB1.out.size))
          have R7_6 := Lib.hid (Row.new v1 [.int .i64 0] 3)
          have CF6 := Lib.hid (CF1.out.below hb)
          have hx7 : w2.heap.size ≤ v1.heap.size := HB1.out.size
          refine hK.out _ _ HB6.out (fun _ => ?_)
          clear hK hb
          generalize v1.alloc (.cells #[.int .i64 0] 3) = v6 at *
          generalize v1.heap.size = x7 at *
          refine KeptAny.one (i := 7) (by kernel_rfl) rfl (by kernel_rfl) (fun K hK => ?_)
          go_simp
          have hb := (Below.refl v6.heap.size v6).alloc (Nat.le_refl _) (.cells #[.map none] 75)
          have HB7 := Lib.hid (HB6.out.trans (hb.mono HB6.out.size))
          have R6_7 := Lib.hid (Row.new v6 [.map none] 75)
          have R7_7 := Lib.hid (R7_6.out.below hb R7_6.out.lt)
          have hne : x7 ≠ v6.heap.size := Nat.ne_of_lt R7_6.out.lt
          have CF7 := Lib.hid (CF6.out.below hb)
          have hx6 : w2.heap.size ≤ v6.heap.size := HB6.out.size
          refine hK.out _ _ HB7.out (fun _ => ?_)
          clear hK hb
          generalize v6.alloc (.cells #[.map none] 75) = v7 at *
          generalize v6.heap.size = x6 at *
          refine KeptAny.one (i := 9) (by kernel_rfl) rfl (by kernel_rfl) (fun K hK => ?_)
          have ff := R6_7.out.frozen 0
          have fl := R6_7.out.lt
          have fc := R6_7.out.cell (i := 0) (v := .map none) (by rfl)
          go_simp
          have HB8 := Lib.hid (HB7.out.setCell (p := ⟨x6, 0, none⟩) hx6 (.map (some M)))
          have R6_8 := Lib.hid (R6_7.out.set 0 (.map (some M)))
          have R7_8 := Lib.hid (R7_7.out.other (a := ⟨x6, 0, none⟩) (by show x6 ≠ x7; omega) (.map (some M)))
          have CF8 := Lib.hid (cfw_set CF7.out R6_7.out (.map (some M)))
          refine hK.out _ _ HB8.out (fun _ => ?_)
          clear hK ff fl fc
          generalize v7.setCell ⟨x6, 0, none⟩ (.map (some M)) = v8 at *
          refine KeptAny.one (i := 10) (by kernel_rfl) rfl (by kernel_rfl) (fun K hK => ?_)
          have ff := R7_8.out.frozen 0
          have fl := R7_8.out.lt
          have fc := R7_8.out.cell (i := 0) (v := .int .i64 0) (by rfl)
          go_simp
          have HB9 := Lib.hid (HB8.out.setCell (p := ⟨x7, 0, none⟩) hx7 (.int .i64 ((dclP ss).length : Int)))
          have R7_9 := Lib.hid (R7_8.out.set 0 (.int .i64 ((dclP ss).length : Int)))
          have R6_9 := Lib.hid (R6_8.out.other (a := ⟨x7, 0, none⟩) (by show x7 ≠ x6; omega) (.int .i64 ((dclP ss).length : Int)))
          have CF9 := Lib.hid (cfw_set CF8.out R7_8.out (.int .i64 ((dclP ss).length : Int)))
          refine hK.out _ _ HB9.out (fun _ => ?_)
          clear hK ff fl fc
          generalize v8.setCell ⟨x7, 0, none⟩ (.int .i64 ((dclP ss).length : Int)) = v9 at *
          refine KeptAny.done (by kernel_rfl) ?_ _
          gi_wp2
          gi_meet
          exact ⟨x6, x7, M, nM, rfl, rfl, hx6, hx7, by omega, R6_9.out, R7_9.out, CF9.out, HB9.out⟩
      · go_simp
        have hb := (Below.refl v0.heap.size v0).alloc (Nat.le_refl _) (.cells #[.map none] 75)
        have HB10 := Lib.hid (HB0.out.trans (hb.mono HB0.out.size))
        have R6_10 := Lib.hid (Row.new v0 [.map none] 75)
        have hx6 : w2.heap.size ≤ v0.heap.size := HB0.out.size
        refine hK.out _ _ HB10.out (fun _ => ?_)
        clear hK hb
        generalize v0.alloc (.cells #[.map none] 75) = v10 at *
        generalize v0.heap.size = x6 at *
        refine KeptAny.two (i := 1) (j := 8) (by kernel_rfl) ⟨_, rfl, by kernel_rfl, fun K hK => ?_⟩ ⟨_, rfl, by kernel_rfl, fun K hK => ?_⟩
        · go_simp
          refine ⟨trivial, ?_⟩
          refine ((callsIn_wide (n := 5)).2 (conflicts_any ss HF.out oa od cap cd N (by have := HLE.out; omega) _ (HN2.out.below HB10.out) (HE.out.at (HW2.out.trans (HB10.out.mono HW2.out.size))).nmg)).mono ?_
          rintro e v11 ⟨M, nM, rfl, hcf, hb⟩
          have HB11 := Lib.hid (HB10.out.trans (hb.mono HB10.out.size))
          have CF11 := Lib.hid hcf
          have R6_11 := Lib.hid (R6_10.out.below hb R6_10.out.lt)
          refine hK.out _ _ HB11.out (fun _ => ?_)
          clear hK hb hcf
          refine KeptAny.one (i := 8) (by kernel_rfl) rfl (by kernel_rfl) (fun K hK => ?_)
          go_simp
          have hb := (Below.refl v11.heap.size v11).alloc (Nat.le_refl _) (.cells #[.int .i64 0] 3)
          have HB12 := Lib.hid (HB11.out.trans (hb.mono HB11.out.size))
          have R7_12 := Lib.hid (Row.new v11 [.int .i64 0] 3)
          have R6_12 := Lib.hid (R6_11.out.below hb R6_11.out.lt)
          have hne : x6 ≠ v11.heap.size := Nat.ne_of_lt R6_11.out.lt
          have CF12 := Lib.hid (CF11.out.below hb)
          have hx7 : w2.heap.size ≤ v11.heap.size := HB11.out.size
          refine hK.out _ _ HB12.out (fun _ => ?_)
          clear hK hb
          generalize v11.alloc (.cells #[.int .i64 0] 3) = v12 at *
          generalize v11.heap.size = x7 at *
          refine KeptAny.one (i := 9) (by kernel_rfl) rfl (by kernel_rfl) (fun K hK => ?_)
          have ff := R6_12.out.frozen 0
          have fl := R6_12.out.lt
          have fc := R6_12.out.cell (i := 0) (v := .map none) (by rfl)
          go_simp
          have HB13 := Lib.hid (HB12.out.setCell (p := ⟨x6, 0, none⟩) hx6 (.map (some M)))
          have R6_13 := Lib.hid (R6_12.out.set 0 (.map (some M)))
          have R7_13 := Lib.hid (R7_12.out.other (a := ⟨x6, 0, none⟩) (by show x6 ≠ x7; omega) (.map (some M)))
          have CF13 := Lib.hid (cfw_set CF12.out R6_12.out (.map (some M)))
          refine hK.out _ _ HB13.out (fun _ => ?_)
          clear hK ff fl fc
          generalize v12.setCell ⟨x6, 0, none⟩ (.map (some M)) = v13 at *
          refine KeptAny.one (i := 10) (by kernel_rfl) rfl (by kernel_rfl) (fun K hK => ?_)
          have ff := R7_13.out.frozen 0
          have fl := R7_13.out.lt
          have fc := R7_13.out.cell (i := 0) (v := .int .i64 0) (by rfl)
          go_simp
          have HB14 := Lib.hid (HB13.out.setCell (p := ⟨x7, 0, none⟩) hx7 (.int .i64 ((dclP ss).length : Int)))
          have R7_14 := Lib.hid (R7_13.out.set 0 (.int .i64 ((dclP ss).length : Int)))
          have R6_14 := Lib.hid (R6_13.out.other (a := ⟨x7, 0, none⟩) (by show x7 ≠ x6; omega) (.int .i64 ((dclP ss).length : Int)))
          have CF14 := Lib.hid (cfw_set CF13.out R7_13.out (.int .i64 ((dclP ss).length : Int)))
          refine hK.out _ _ HB14.out (fun _ => ?_)
          clear hK ff fl fc
          generalize v13.setCell ⟨x7, 0, none⟩ (.int .i64 ((dclP ss).length : Int)) = v14 at *
          refine KeptAny.done (by kernel_rfl) ?_ _
          gi_wp2
          gi_meet
          exact ⟨x6, x7, M, nM, rfl, rfl, hx6, hx7, by omega, R6_14.out, R7_14.out, CF14.out, HB14.out⟩
        · go_simp
          have hb := (Below.refl v10.heap.size v10).alloc (Nat.le_refl _) (.cells #[.int .i64 0] 3)
          have HB15 := Lib.hid (HB10.out.trans (hb.mono HB10.out.size))
          have R7_15 := Lib.hid (Row.new v10 [.int .i64 0] 3)
          have R6_15 := Lib.hid (R6_10.out.below hb R6_10.out.lt)
          have hne : x6 ≠ v10.heap.size := Nat.ne_of_lt R6_10.out.lt
          have hx7 : w2.heap.size ≤ v10.heap.size := HB10.out.size
          refine hK.out _ _ HB15.out (fun _ => ?_)
          clear hK hb
          generalize v10.alloc (.cells #[.int .i64 0] 3) = v15 at *
          generalize v10.heap.size = x7 at *
          refine KeptAny.one (i := 1) (by kernel_rfl) rfl (by kernel_rfl) (fun K hK => ?_)
          go_simp
          refine ⟨trivial, ?_⟩
          refine ((callsIn_wide (n := 5)).2 (conflicts_any ss HF.out oa od cap cd N (by have := HLE.out; omega) _ (HN2.out.below HB15.out) (HE.out.at (HW2.out.trans (HB15.out.mono HW2.out.size))).nmg)).mono ?_
          rintro e v16 ⟨M, nM, rfl, hcf, hb⟩
          have HB16 := Lib.hid (HB15.out.trans (hb.mono HB15.out.size))
          have CF16 := Lib.hid hcf
          have R6_16 := Lib.hid (R6_15.out.below hb R6_15.out.lt)
          have R7_16 := Lib.hid (R7_15.out.below hb R7_15.out.lt)
          refine hK.out _ _ HB16.out (fun _ => ?_)
          clear hK hb hcf
          refine KeptAny.one (i := 9) (by kernel_rfl) rfl (by kernel_rfl) (fun K hK => ?_)
          have ff := R6_16.out.frozen 0
          have fl := R6_16.out.lt
          have fc := R6_16.out.cell (i := 0) (v := .map none) (by rfl)
          go_simp
          have HB17 := Lib.hid (HB16.out.setCell (p := ⟨x6, 0, none⟩) hx6 (.map (some M)))
          have R6_17 := Lib.hid (R6_16.out.set 0 (.map (some M)))
          have R7_17 := Lib.hid (R7_16.out.other (a := ⟨x6, 0, none⟩) (by show x6 ≠ x7; omega) (.map (some M)))
          have CF17 := Lib.hid (cfw_set CF16.out R6_16.out (.map (some M)))
          refine hK.out _ _ HB17.out (fun _ => ?_)
          clear hK ff fl fc
          generalize v16.setCell ⟨x6, 0, none⟩ (.map (some M)) = v17 at *
          refine KeptAny.one (i := 10) (by kernel_rfl) rfl (by kernel_rfl) (fun K hK => ?_)
          have ff := R7_17.out.frozen 0
          have fl := R7_17.out.lt
          have fc := R7_17.out.cell (i := 0) (v := .int .i64 0) (by rfl)
          go_simp
          have HB18 := Lib.hid (HB17.out.setCell (p := ⟨x7, 0, none⟩) hx7 (.int .i64 ((dclP ss).length : Int)))
          have R7_18 := Lib.hid (R7_17.out.set 0 (.int .i64 ((dclP ss).length : Int)))
          have R6_18 := Lib.hid (R6_17.out.other (a := ⟨x7, 0, none⟩) (by show x7 ≠ x6; omega) (.int .i64 ((dclP ss).length : Int)))
          have CF18 := Lib.hid (cfw_set CF17.out R7_17.out (.int .i64 ((dclP ss).length : Int)))
          refine hK.out _ _ HB18.out (fun _ => ?_)
          clear hK ff fl fc
          generalize v17.setCell ⟨x7, 0, none⟩ (.int .i64 ((dclP ss).length : Int)) = v18 at *
          refine KeptAny.done (by kernel_rfl) ?_ _
          gi_wp2
          gi_meet
          exact ⟨x6, x7, M, nM, rfl, rfl, hx6, hx7, by omega, R6_18.out, R7_18.out, CF18.out, HB18.out⟩
      · go_simp
        have hb := (Below.refl v0.heap.size v0).alloc (Nat.le_refl _) (.cells #[.int .i64 0] 3)
        have HB19 := Lib.hid (HB0.out.trans (hb.mono HB0.out.size))
        have R7_19 := Lib.hid (Row.new v0 [.int .i64 0] 3)
        have hx7 : w2.heap.size ≤ v0.heap.size := HB0.out.size
        refine hK.out _ _ HB19.out (fun _ => ?_)
        clear hK hb
        generalize v0.alloc (.cells #[.int .i64 0] 3) = v19 at *
        generalize v0.heap.size = x7 at *
        refine KeptAny.two (i := 1) (j := 7) (by kernel_rfl) ⟨_, rfl, by kernel_rfl, fun K hK => ?_⟩ ⟨_, rfl, by kernel_rfl, fun K hK => ?_⟩
        · go_simp
          refine ⟨trivial, ?_⟩
          refine ((callsIn_wide (n := 5)).2 (conflicts_any ss HF.out oa od cap cd N (by have := HLE.out; omega) _ (HN2.out.below HB19.out) (HE.out.at (HW2.out.trans (HB19.out.mono HW2.out.size))).nmg)).mono ?_
          rintro e v20 ⟨M, nM, rfl, hcf, hb⟩
          have HB20 := Lib.hid (HB19.out.trans (hb.mono HB19.out.size))
          have CF20 := Lib.hid hcf
          have R7_20 := Lib.hid (R7_19.out.below hb R7_19.out.lt)
          refine hK.out _ _ HB20.out (fun _ => ?_)
          clear hK hb hcf
          refine KeptAny.one (i := 7) (by kernel_rfl) rfl (by kernel_rfl) (fun K hK => ?_)
          go_simp
          have hb := (Below.refl v20.heap.size v20).alloc (Nat.le_refl _) (.cells #[.map none] 75)
          have HB21 := Lib.hid (HB20.out.trans (hb.mono HB20.out.size))
          have R6_21 := Lib.hid (Row.new v20 [.map none] 75)
          have R7_21 := Lib.hid (R7_20.out.below hb R7_20.out.lt)
          have hne : x7 ≠ v20.heap.size := Nat.ne_of_lt R7_20.out.lt
          have CF21 := Lib.hid (CF20.out.below hb)
          have hx6 : w2.heap.size ≤ v20.heap.size := HB20.out.size
          refine hK.out _ _ HB21.out (fun _ => ?_)
          clear hK hb
          generalize v20.alloc (.cells #[.map none] 75) = v21 at *
          generalize v20.heap.size = x6 at *
          refine KeptAny.one (i := 9) (by kernel_rfl) rfl (by kernel_rfl) (fun K hK => ?_)
          have ff := R6_21.out.frozen 0
          have fl := R6_21.out.lt
          have fc := R6_21.out.cell (i := 0) (v := .map none) (by rfl)
          go_simp
          have HB22 := Lib.hid (HB21.out.setCell (p := ⟨x6, 0, none⟩) hx6 (.map (some M)))
          have R6_22 := Lib.hid (R6_21.out.set 0 (.map (some M)))
          have R7_22 := Lib.hid (R7_21.out.other (a := ⟨x6, 0, none⟩) (by show x6 ≠ x7; omega) (.map (some M)))
          have CF22 := Lib.hid (cfw_set CF21.out R6_21.out (.map (some M)))
          refine hK.out _ _ HB22.out (fun _ => ?_)
          clear hK ff fl fc
          generalize v21.setCell ⟨x6, 0, none⟩ (.map (some M)) = v22 at *
          refine KeptAny.one (i := 10) (by kernel_rfl) rfl (by kernel_rfl) (fun K hK => ?_)
          have ff := R7_22.out.frozen 0
          have fl := R7_22.out.lt
          have fc := R7_22.out.cell (i := 0) (v := .int .i64 0) (by rfl)
          go_simp
          have HB23 := Lib.hid (HB22.out.setCell (p := ⟨x7, 0, none⟩) hx7 (.int .i64 ((dclP ss).length : Int)))
          have R7_23 := Lib.hid (R7_22.out.set 0 (.int .i64 ((dclP ss).length : Int)))
          have R6_23 := Lib.hid (R6_22.out.other (a := ⟨x7, 0, none⟩) (by show x7 ≠ x6; omega) (.int .i64 ((dclP ss).length : Int)))
          have CF23 := Lib.hid (cfw_set CF22.out R7_22.out (.int .i64 ((dclP ss).length : Int)))
          refine hK.out _ _ HB23.out (fun _ => ?_)
          clear hK ff fl fc
          generalize v22.setCell ⟨x7, 0, none⟩ (.int .i64 ((dclP ss).length : Int)) = v23 at *
          refine KeptAny.done (by kernel_rfl) ?_ _
          gi_wp2
          gi_meet
          exact ⟨x6, x7, M, nM, rfl, rfl, hx6, hx7, by omega, R6_23.out, R7_23.out, CF23.out, HB23.out⟩
        · go_simp
          have hb := (Below.refl v19.heap.size v19).alloc (Nat.le_refl _) (.cells #[.map none] 75)
          have HB24 := Lib.hid (HB19.out.trans (hb.mono HB19.out.size))
          have R6_24 := Lib.hid (Row.new v19 [.map none] 75)
          have R7_24 := Lib.hid (R7_19.out.below hb R7_19.out.lt)
          have hne : x7 ≠ v19.heap.size := Nat.ne_of_lt R7_19.out.lt
          have hx6 : w2.heap.size ≤ v19.heap.size := HB19.out.size
          refine hK.out _ _ HB24.out (fun _ => ?_)
          clear hK hb
          generalize v19.alloc (.cells #[.map none] 75) = v24 at *
          generalize v19.heap.size = x6 at *
          refine KeptAny.one (i := 1) (by kernel_rfl) rfl (by kernel_rfl) (fun K hK => ?_)
          go_simp
          refine ⟨trivial, ?_⟩
          refine ((callsIn_wide (n := 5)).2 (conflicts_any ss HF.out oa od cap cd N (by have := HLE.out; omega) _ (HN2.out.below HB24.out) (HE.out.at (HW2.out.trans (HB24.out.mono HW2.out.size))).nmg)).mono ?_
          rintro e v25 ⟨M, nM, rfl, hcf, hb⟩
          have HB25 := Lib.hid (HB24.out.trans (hb.mono HB24.out.size))
          have CF25 := Lib.hid hcf
          have R7_25 := Lib.hid (R7_24.out.below hb R7_24.out.lt)
          have R6_25 := Lib.hid (R6_24.out.below hb R6_24.out.lt)
          refine hK.out _ _ HB25.out (fun _ => ?_)
          clear hK hb hcf
          refine KeptAny.one (i := 9) (by kernel_rfl) rfl (by kernel_rfl) (fun K hK => ?_)
          have ff := R6_25.out.frozen 0
          have fl := R6_25.out.lt
          have fc := R6_25.out.cell (i := 0) (v := .map none) (by rfl)
          go_simp
          have HB26 := Lib.hid (HB25.out.setCell (p := ⟨x6, 0, none⟩) hx6 (.map (some M)))
          have R6_26 := Lib.hid (R6_25.out.set 0 (.map (some M)))
          have R7_26 := Lib.hid (R7_25.out.other (a := ⟨x6, 0, none⟩) (by show x6 ≠ x7; omega) (.map (some M)))
          have CF26 := Lib.hid (cfw_set CF25.out R6_25.out (.map (some M)))
          refine hK.out _ _ HB26.out (fun _ => ?_)
          clear hK ff fl fc
          generalize v25.setCell ⟨x6, 0, none⟩ (.map (some M)) = v26 at *
          refine KeptAny.one (i := 10) (by kernel_rfl) rfl (by kernel_rfl) (fun K hK => ?_)
          have ff := R7_26.out.frozen 0
          have fl := R7_26.out.lt
          have fc := R7_26.out.cell (i := 0) (v := .int .i64 0) (by rfl)
          go_simp
          have HB27 := Lib.hid (HB26.out.setCell (p := ⟨x7, 0, none⟩) hx7 (.int .i64 ((dclP ss).length : Int)))
          have R7_27 := Lib.hid (R7_26.out.set 0 (.int .i64 ((dclP ss).length : Int)))
          have R6_27 := Lib.hid (R6_26.out.other (a := ⟨x7, 0, none⟩) (by show x7 ≠ x6; omega) (.int .i64 ((dclP ss).length : Int)))
          have CF27 := Lib.hid (cfw_set CF26.out R7_26.out (.int .i64 ((dclP ss).length : Int)))
          refine hK.out _ _ HB27.out (fun _ => ?_)
          clear hK ff fl fc
          generalize v26.setCell ⟨x7, 0, none⟩ (.int .i64 ((dclP ss).length : Int)) = v27 at *
          refine KeptAny.done (by kernel_rfl) ?_ _
          gi_wp2
          gi_meet
          exact ⟨x6, x7, M, nM, rfl, rfl, hx6, hx7, by omega, R6_27.out, R7_27.out, CF27.out, HB27.out⟩
    case rest =>
      obtain ⟨x6, x7, M, nM, rfl, rfl, hx6, hx7, hne, hr6, hr7, hcf, hbw⟩ := hcut
      have HR6 := Lib.hid hr6
      have HR7 := Lib.hid hr7
      have HCF := Lib.hid hcf
      have HBC := Lib.hid hbw
      have hW2 : w1.heap.size < w2.heap.size := b4l
      have B4 := Lib.hid ((hbw.cell (p := ⟨w1.heap.size, 0, none⟩) b4l).trans b4)
      have HNC := Lib.hid (HN2.out.below hbw)
      have S2' := Lib.hid (S2.out.below hbw S2.out.lt)
      have S3' := Lib.hid (S3.out.below hbw S3.out.lt)
      clear hr6 hr7 hcf hbw b4 nd nl S2 S3
      gi_wp2
      obtain ⟨I, hI⟩ : ∃ I : Act → World → Prop, I = fun (a' : Act) (wr : World) => ∃ (k : Nat) (Ds : List Nat) (u9 u24 u25 u26 u27 u28 u29 u30 u31 u32 u33 u34 u35 u36 u37 u38 u39 u40 u41 : Value), a' = { tmps := #[.agg #[.slice oa ss.length cap], .pointer (some ⟨w.heap.size, 0, none⟩), .pointer (some ⟨w.heap.size + 1, 0, none⟩), .pointer (some ⟨w.heap.size + 1 + 1, 0, none⟩), .pointer (some ⟨w1.heap.size, 0, none⟩), .nilIface, .pointer (some ⟨x6, 0, none⟩), .pointer (some ⟨x7, 0, none⟩), .int .i64 ((k : Int) + 1), u9, .tuple #[.pointer (some ⟨N, 0, none⟩), .nilIface], .agg #[.slice oa ss.length cap], .tuple #[.pointer (some ⟨N, 0, none⟩), .nilIface], .pointer (some ⟨N, 0, none⟩), .nilIface, .nilIface, .bool false, u17, u18, u19, u20, u21, u22, u23, u24, u25, u26, u27, u28, u29, u30, u31, u32, u33, u34, u35, u36, u37, u38, u39, u40, u41], defers := Ds.map colD } ∧ k ≤ 7 ∧ Hid (fewUp ss k = none) ∧ Hid (Below wc.heap.size wc wr) ∧ Hid (DsOk wc.heap.size wr Ds) := ⟨_, rfl⟩
      refine wpIn_loop I (fun a' _ => 9 - (intOf (a'.tmps.getD 8 undef)).toNat) (by rw [hI]; exact ⟨0, [], _, _, _, _, _, _, _, _, _, _, _, _, _, _, _, _, _, _, _, rfl, by omega, Lib.hid rfl, Lib.hid (Below.refl _ _), Lib.hid ⟨List.nodup_nil, by simp⟩⟩) ?_
      intro a' wr hin
      rw [hI] at hin
      obtain ⟨k, Ds, u9, u24, u25, u26, u27, u28, u29, u30, u31, u32, u33, u34, u35, u36, u37, u38, u39, u40, u41, rfl, hk7, HUP, HBR, HDS⟩ := hin
      have HI := Lib.hid hI
      clear hI
      by_cases hlt : k < 7
      · have e1 : ((k : Int) + 1) ≤ 7 := by omega
        have e2 : IntKind.i64.wrap ((k : Int) + 1 + 1) = (k : Int) + 1 + 1 := by rw [wrap_small _ (by omega) (by omega)]
        have c7 := (HBR.out.cell (p := ⟨x7, 0, none⟩) HR7.out.lt).trans (HR7.out.cell (i := 0) (v := .int .i64 ((dclP ss).length : Int)) (by rfl))
        have CP := Lib.hid ((callsIn_wide (n := 5)).2 (partitions_any (dclP ss).length (k + 1) wr))
        gi_wp2_with fail
        first | refine ⟨trivial, ?_⟩ | skip
        refine CP.out.mono ?_
        rintro e W ⟨rfl, rfl⟩
        gi_wp2
        have q1 := (Row.new wr [.int .i64 ((dclP ss).length : Int)] 3).alloc (.cells #[.int .i64 ((k : Int) + 1)] 3)
        have q2 := Row.new (wr.alloc (.cells #[.int .i64 ((dclP ss).length : Int)] 3)) [.int .i64 ((k : Int) + 1)] 3
        rw [World.size_alloc] at q2
        have hbW : Below wr.heap.size wr ((wr.alloc (.cells #[.int .i64 ((dclP ss).length : Int)] 3)).alloc (.cells #[.int .i64 ((k : Int) + 1)] 3)) := ((Below.refl _ _).alloc (Nat.le_refl _) _).alloc (by simp) _
        have HBW := Lib.hid (HBR.out.trans (hbW.mono HBR.out.size))
        have HDW := Lib.hid (HDS.out.below hbW)
        have HQ1 := Lib.hid q1
        have HQ2 := Lib.hid q2
        have d1 := q1.lt
        have d2 := q2.lt
        clear hbW CP c7
        have HWW := Lib.hid ((HW2.out.trans (HBC.out.mono HW2.out.size)).trans (HBW.out.mono (Nat.le_trans HW2.out.size HBC.out.size)))
        have T2 := Lib.hid (S2'.out.below HBW.out S2'.out.lt)
        have T3 := Lib.hid (S3'.out.below HBW.out S3'.out.lt)
        clear q1 q2
        generalize ((wr.alloc (.cells #[.int .i64 ((dclP ss).length : Int)] 3)).alloc (.cells #[.int .i64 ((k : Int) + 1)] 3)) = W at *
        refine wpIn_rangeFunc_b (gf := 69) (lb := #[.pointer (some ⟨wr.heap.size, 0, none⟩), .pointer (some ⟨wr.heap.size + 1, 0, none⟩)]) rfl (enters_of Tryz.func69 (by kernel_rfl) rfl)
          (part_stops (c := (dclP ss).length) (m := k + 1) 5 HLE.out (by omega) (by omega) wr.heap.size (wr.heap.size + 1) W ⟨d1, d2⟩) (Below.refl _ _) (fun _ => rfl)
          (fun pre V => Below W.heap.size W V ∧ ∀ x ∈ pre, ¬ goodN ss x.1)
          (fun c' pre V => c' = .ret ∧ (∃ pre' x, pre = pre' ++ [x] ∧ (∀ y ∈ pre', ¬ goodN ss y.1) ∧ goodN ss x.1 ∧ Row V (w.heap.size + 1) 9 [.string (txtN x.1)] ∧ Row V (w.heap.size + 1 + 1) 4 [.bool true] ∧ Below w.heap.size w V) ∧ ∀ D ∈ Ds, V.heap[D]? = some (.deferred (some [])))
          (fun _ _ _ h hb => ⟨h.1.trans (hb.mono (Nat.le_refl _)), h.2⟩)
          (fun c' s A C h hb => by
            obtain ⟨h1, ⟨pre', x, h2, h3, h4, h5, h6, h7⟩, h8⟩ := h
            exact ⟨h1, ⟨pre', x, h2, h3, h4, h5.below hb T2.out.lt, h6.below hb T3.out.lt, h7.trans (hb.mono HWW.out.size)⟩, fun D hD => (hb.block D (HDW.out.lt hD)).trans (h8 D hD)⟩)
          (fun _ V h => ⟨(h.1.cell (p := ⟨wr.heap.size, 0, none⟩) d1).trans (HQ1.out.cell (i := 0) (by rfl)), (h.1.cell (p := ⟨wr.heap.size + 1, 0, none⟩) d2).trans (HQ2.out.cell (i := 0) (by rfl))⟩)
          ⟨Below.refl _ _, by simp⟩
          (fun x a' V => ∃ b9, Row V b9 86 (ptL x.1) ∧ W.heap.size ≤ b9 ∧ a' = { tmps := #[.agg #[.slice oa ss.length cap], .pointer (some ⟨w.heap.size, 0, none⟩), .pointer (some ⟨w.heap.size + 1, 0, none⟩), .pointer (some ⟨w.heap.size + 1 + 1, 0, none⟩), .pointer (some ⟨w1.heap.size, 0, none⟩), .nilIface, .pointer (some ⟨x6, 0, none⟩), .pointer (some ⟨x7, 0, none⟩), .int .i64 ((k : Int) + 1), .pointer (some ⟨b9, 0, none⟩), .tuple #[.pointer (some ⟨N, 0, none⟩), .nilIface], .agg #[.slice oa ss.length cap], .tuple #[.pointer (some ⟨N, 0, none⟩), .nilIface], .pointer (some ⟨N, 0, none⟩), .nilIface, .nilIface, .bool false, u17, u18, u19, u20, u21, u22, u23, .int .i64 ((k : Int) + 1), .bool true, u26, u27, .int .i64 ((dclP ss).length : Int), .int .i64 ((k : Int) + 1), .func (.func 69) #[] #[.pointer (some ⟨wr.heap.size, 0, none⟩), .pointer (some ⟨wr.heap.size + 1, 0, none⟩)], .agg (ptL x.1).toArray, u32, u33, u34, u35, u36, u37, u38, u39, u40, u41], defers := [] })
          (fun x a' _ X Y row hs hg hr => by obtain ⟨b9, h1, h2, h3⟩ := hs; exact ⟨b9, h1.kept_cells hg (fun r e => (hr r e).2), h2, h3⟩)
          ?assign ?body ?done ?stop
        case assign =>
          rintro l pre x V K hi hK
          have hrn := Row.new V [.int .u8 0, .int .u8 0, .int .u8 0, .int .u8 0, .int .u8 0, .int .u8 0, .int .u8 0] 86
          have hbn := (Below.refl V.heap.size V).alloc (Nat.le_refl _) (.cells #[.int .u8 0, .int .u8 0, .int .u8 0, .int .u8 0, .int .u8 0, .int .u8 0, .int .u8 0] 86)
          have hbx := hbn.trans (below_setRow (V.alloc (.cells #[.int .u8 0, .int .u8 0, .int .u8 0, .int .u8 0, .int .u8 0, .int .u8 0, .int .u8 0] 86)) V.heap.size (ptL x.1).toArray (Nat.le_refl _))
          have hr7 := setRow_heap _ V.heap.size _ (ptL x.1).toArray _ _ hrn
          have HX := Lib.hid (And.intro hbx hr7)
          have HIV := Lib.hid hi
          have HKK := Lib.hid hK
          clear hbn hbx hr7 hi hK
          unfold Row at hrn
          gi_wp2_with (refine wpListIn_st_any rfl 86 _ _ rfl rfl V.heap.size (ptL x.1).toArray rfl rfl 86 _ hrn (ptL_info _) (by simp [ptL_length]) (ptL_one _) ?_)
          refine HKK.out _ _ (KeepsAll.of_below HX.out.1) ⟨HIV.out.1.trans (HX.out.1.mono HIV.out.1.size), HIV.out.2⟩ ⟨V.heap.size, HX.out.2, HIV.out.1.size, rfl⟩
        case body =>
          rintro l pre x a' V hl ⟨lr, hlr⟩ hi ⟨b9, hr9, hb9, rfl⟩ hlen
          obtain ⟨hbV, hno⟩ := hi
          have HHL : Hid (∃ r, V.heap[l]? = some (.loop r)) := Lib.hid ⟨lr, hlr⟩
          have HBV := Lib.hid hbV
          have HNO := Lib.hid hno
          have HR9 := Lib.hid hr9
          have hbc := HBW.out.trans (hbV.mono HBW.out.size)
          have b4 := (hbc.cell (p := ⟨w1.heap.size, 0, none⟩) (Nat.lt_of_lt_of_le hW2 HBC.out.size)).trans B4.out
          have b6 := (hbc.cell (p := ⟨x6, 0, none⟩) HR6.out.lt).trans (HR6.out.cell (i := 0) (v := .map (some M)) (by rfl))
          have b7 := (hbc.cell (p := ⟨x7, 0, none⟩) HR7.out.lt).trans (HR7.out.cell (i := 0) (v := .int .i64 ((dclP ss).length : Int)) (by rfl))
          have HB7 := Lib.hid b7
          have HNV := Lib.hid (HNC.out.below hbc)
          have nd := HNV.out.box.cell nbL_dcl
          have HCV := Lib.hid (HCF.out.below hbc)
          have HS0 : Hid ((V.drew).cell? ⟨w1.heap.size, 0, none⟩ = some (.pointer (some ⟨N, 0, none⟩)) ∧ (V.drew).cell? ⟨x6, 0, none⟩ = some (.map (some M)) ∧ (V.drew).cell? ⟨N, 31, none⟩ = some (.slice od (dclP ss).length cd) ∧ Row V.drew b9 86 (ptL x.1)) := Lib.hid ⟨cell_drew b4, cell_drew b6, cell_drew nd, hr9⟩
          have hln : x.1.length = (dclP ss).length := rgL_length _ _ _ _ x.2
          have hlk : ∀ y ∈ x.1, y < 7 := fun y hy => by have := rgL_lt _ _ _ _ x.2 y hy; omega
          have CA : Hid (∀ W', Below V.heap.size V W' → Calls Tryz.prog 45 #[.map (some M), .slice od (dclP ss).length cd, .agg (ptL x.1).toArray] W' fun e w' => e = .returned (.bool (decide (goodN ss x.1))) ∧ Below W'.heap.size W' w') := Lib.hid fun W' h => allows_any ss HN2.out.ok od cd M nM HNV.out.room x.1 hln HLE.out hlk W' (HNV.out.dcls.below h) (HCV.out.below h)
          have HLN := Lib.hid hln
          have HLK := Lib.hid hlk
          clear hbV hno hr9 hbc b4 b6 b7 nd hln hlk hlr
          gi_wp2
          refine wpIn_region_kept (F := Fence.wide) (S := fun w' => w'.cell? ⟨w1.heap.size, 0, none⟩ = some (.pointer (some ⟨N, 0, none⟩)) ∧ w'.cell? ⟨x6, 0, none⟩ = some (.map (some M)) ∧ w'.cell? ⟨N, 31, none⟩ = some (.slice od (dclP ss).length cd) ∧ Row w' b9 86 (ptL x.1)) 99 l (by kernel_rfl) (by kernel_rfl) ?_
          have HBD := Lib.hid ((Below.refl V.heap.size V).drew)
          have hS0 := HS0.out
          generalize V.drew = v0 at *
          refine KeptAny.tk (v := ?_) 0 hS0 (fun w' hw' => ?_) ?_
          rotate_left
          · (obtain ⟨g0, g1, g2, g3⟩ := hw'; go_simp; try with_reducible rfl)
          refine KeptAny.tk (v := ?_) 1 hS0 (fun w' hw' => ?_) ?_
          rotate_left
          · (obtain ⟨g0, g1, g2, g3⟩ := hw'; go_simp; try with_reducible rfl)
          refine KeptAny.tk (v := ?_) 2 hS0 (fun w' hw' => ?_) ?_
          rotate_left
          · (obtain ⟨g0, g1, g2, g3⟩ := hw'; go_simp; try with_reducible rfl)
          refine KeptAny.tk (v := ?_) 3 hS0 (fun w' hw' => ?_) ?_
          rotate_left
          · (obtain ⟨g0, g1, g2, g3⟩ := hw'; go_simp; try with_reducible rfl)
          refine KeptAny.tk (v := ?_) 4 hS0 (fun w' hw' => ?_) ?_
          rotate_left
          · (obtain ⟨g0, g1, g2, g3⟩ := hw'; go_simp; try with_reducible rfl)
          refine KeptAny.tk (v := .agg (ptL x.1).toArray) 5 hS0 (fun w' hw' => ?_) ?_
          · exact exec_load_row5 86 (.tmp 9) rfl b9 rfl 86 _ (0, 0) _ hw'.2.2.2 Tryz.underlying86 rfl (ptL_info _)
          clear hS0
          refine KeptAny.one (i := 6) (by kernel_rfl) rfl (by kernel_rfl) (fun K hK => ?_)
          go_simp
          refine ⟨trivial, ?_⟩
          refine ((callsIn_wide).2 (CA.out v0 HBD.out)).mono ?_
          rintro e v1 ⟨rfl, hb1⟩
          have HV1 := Lib.hid (HBD.out.trans (hb1.mono HBD.out.size))
          have HR1 := Lib.hid (HS0.out.2.2.2.below hb1 HS0.out.2.2.2.lt)
          refine hK.out _ _ ⟨cell_grow hb1 HS0.out.1, cell_grow hb1 HS0.out.2.1, cell_grow hb1 HS0.out.2.2.1, HR1.out⟩ (fun _ => ?_)
          clear hK hb1
          obtain ⟨q, hq⟩ : ∃ q, decide (goodN ss x.1) = q := ⟨_, rfl⟩
          rw [hq]
          have HQ := Lib.hid hq
          clear hq
          refine KeptAny.done (by kernel_rfl) ?_ _
          cases q
          · gi_wp2
            refine ⟨KeepsAll.of_below HV1.out, HBV.out.trans (HV1.out.mono HBV.out.size), fun y hy => ?_⟩
            rcases List.mem_append.1 hy with hy | hy
            · exact HNO.out y hy
            · rw [List.mem_singleton] at hy
              subst hy
              exact of_decide_eq_false HQ.out
          · have hBT : BytesAt v1 b9 (txtN x.1).data.toList := fun j z hj => by
              rw [txtN_list, List.getElem?_map] at hj
              obtain ⟨y, hy, rfl⟩ := Option.map_eq_some_iff.1 hj
              have hj7 : j < 7 := by have := (List.getElem?_eq_some_iff.1 hy).1; have := HLN.out; have := HLE.out; omega
              have hy7 := HLK.out y (List.mem_of_getElem? hy)
              refine ⟨?_, HR1.out.frozen j⟩
              have h1 := HR1.out.cell (ptL_get hj7 hy)
              have e : (UInt8.ofNat (97 + y)).toNat = 97 + y := UInt8.toNat_ofNat_of_lt (by show 97 + y < 256; omega)
              rw [h1, e]
            have htl : (txtN x.1).data.toList.length = (dclP ss).length := by rw [txtN_list, List.length_map]; exact HLN.out
            have hcv := bytes_text (cap := 7) hBT
            rw [htl, show (⟨(txtN x.1).data.toList.toArray⟩ : ByteArray) = txtN x.1 from rfl] at hcv
            have k7 := (HV1.out.cell (p := ⟨x7, 0, none⟩) (World.block_lt_of_cell? _ _ HB7.out)).trans HB7.out
            have l0 : (0 : Int) ≤ ((dclP ss).length : Int) := by omega
            have l7 : ((dclP ss).length : Int) ≤ 7 := by have := HLE.out; omega
            have hWV := HBV.out.trans (HV1.out.mono HBV.out.size)
            have T2' := Lib.hid (T2.out.below hWV T2.out.lt)
            have T3' := Lib.hid (T3.out.below hWV T3.out.lt)
            have c2 := T2'.out.cell (i := 0) (v := .string ⟨#[]⟩) (by rfl)
            have c3 := T3'.out.cell (i := 0) (v := .bool false) (by rfl)
            have f2 := T2'.out.frozen 0
            have f3 := T3'.out.frozen 0
            have l2 := T2'.out.lt
            have l3 := T3'.out.lt
            have HGD := Lib.hid (of_decide_eq_true HQ.out)
            clear hBT htl hWV
            obtain ⟨TX, hTX⟩ : ∃ TX, txtN x.1 = TX := ⟨_, rfl⟩
            rw [hTX] at hcv
            have HTX := Lib.hid hTX
            clear hTX
            gi_wp2
            have lw2 : w.heap.size + 1 + 1 < W.heap.size := T3.out.lt
            have lwc := Nat.le_trans HW2.out.size HBC.out.size
            have lc3 := S3'.out.lt
            refine ⟨(KeepsAll.of_below HV1.out).trans ⟨by simp, fun i o hB h => ?_⟩, rfl, ⟨pre, x, rfl, HNO.out, HGD.out, (by rw [HTX.out]; exact (T2'.out.set 0 (.string TX)).other (a := ⟨w.heap.size + 1 + 1, 0, none⟩) (by show w.heap.size + 1 + 1 ≠ w.heap.size + 1; omega) (.bool true)), (T3'.out.other (a := ⟨w.heap.size + 1, 0, none⟩) (by show w.heap.size + 1 ≠ w.heap.size + 1 + 1; omega) (.string TX)).set 0 (.bool true), ?_⟩, fun D hD => ?_⟩
            · exact ((Below.heap_setCell _ _ _ _ (by show i ≠ w.heap.size + 1 + 1; omega)).trans (Below.heap_setCell _ _ _ _ (by show i ≠ w.heap.size + 1; omega))).trans h
            · exact ((HWW.out.trans ((HBV.out.trans (HV1.out.mono HBV.out.size)).mono HWW.out.size)).setCell (p := ⟨w.heap.size + 1, 0, none⟩) (Nat.le_succ _) (.string TX)).setCell (p := ⟨w.heap.size + 1 + 1, 0, none⟩) (by show w.heap.size ≤ w.heap.size + 1 + 1; omega) (.bool true)
            · have hd1 := (HDW.out.at_ D hD).1
              have hd2 := HDW.out.lt hD
              refine ((Below.heap_setCell _ _ _ _ (by show D ≠ w.heap.size + 1 + 1; omega)).trans (Below.heap_setCell _ _ _ _ (by show D ≠ w.heap.size + 1; omega))).trans ?_
              exact ((HBV.out.trans (HV1.out.mono HBV.out.size)).block D hd2).trans (HDW.out.at_ D hD).2
        case done =>
          rintro D xs V hD hS ⟨hbV, hno⟩ hK
          have HNO : Hid (fewUp ss (k + 1) = none) := Lib.hid ((fewUp_go HUP.out).trans (by
            unfold fewAt
            rw [List.find?_eq_none]
            intro l hl
            rw [← hS] at hl
            obtain ⟨y, hy, rfl⟩ := List.mem_map.1 hl
            simpa using hno y hy))
          have HBV := Lib.hid hbV
          have HDV : Hid (DsOk wc.heap.size V (D :: Ds)) := Lib.hid ((HDW.out.below hbV).cons (Nat.le_trans HBW.out.size hD) hK fun E hE => Nat.lt_of_lt_of_le (HDW.out.lt hE) hD)
          clear hS hbV hno hK
          gi_wp2
          refine ⟨?_, ?_⟩
          · rw [HI.out]
            exact ⟨k + 1, D :: Ds, _, _, _, _, _, _, _, _, _, _, _, _, _, _, _, _, _, _, _, rfl, by omega, HNO, Lib.hid (HBW.out.trans (HBV.out.mono HBW.out.size)), HDV⟩
          · simp [intOf]; omega
        case stop =>
          rintro D c' pre V hD hSp ⟨rfl, ⟨pre', x, rfl, hno, hgd, hr2, hr3, hbV⟩, hds⟩ hK
          have HAN : Hid (fewR ss = (txtN x.1, true)) := Lib.hid (by
            have hat : fewAt ss (k + 1) = some x.1 := by
              obtain ⟨tl, htl⟩ := hSp
              have h0 : fewAt ss (k + 1) = List.find? (fun l => decide (goodN ss l)) (List.map Subtype.val (pre' ++ [x]) ++ tl) := congrArg _ htl.symm
              rw [h0, List.map_append, List.append_assoc, List.find?_append]
              rw [List.find?_eq_none.2 (by
                intro l hl
                obtain ⟨y, hy, rfl⟩ := List.mem_map.1 hl
                simpa using hno y hy)]
              simp [hgd]
            have h7 := fewUp_stay ((fewUp_go HUP.out).trans hat) (show k + 1 ≤ 7 by omega)
            unfold fewR
            rw [if_pos ⟨HN2.out.ok, HLE.out⟩, h7]
            rfl)
          gi_wp2
          refine leaves_all (B := wc.heap.size) (fun V => Row V (w.heap.size + 1) 9 [.string (txtN x.1)] ∧ Row V (w.heap.size + 1 + 1) 4 [.bool true] ∧ Below w.heap.size w V) (fun W' D' h hB => ?_) (fun W' h => ?_) (D :: Ds) V ⟨hr2, hr3, hbV⟩ ?_
          · have l2 := S2'.out.lt
            have l3 := S3'.out.lt
            have lb := Nat.le_trans HW2.out.size HBC.out.size
            exact ⟨(World.putObj_heap_other (by omega)).trans h.1, (World.putObj_heap_other (by omega)).trans h.2.1, h.2.2.trans (below_putObj _ _ (by omega))⟩
          · have T2 := h.1.cell (i := 0) (v := .string (txtN x.1)) (by rfl)
            have T3 := h.2.1.cell (i := 0) (v := .bool true) (by rfl)
            exact ⟨.tuple #[.string (txtN x.1), .bool true], by simp [results, Tryz.results24, go_sem, T2, T3], by rw [HAN.out], h.2.2⟩
          · refine ⟨List.nodup_cons.2 ⟨fun hm => ?_, HDW.out.nodup⟩, fun E hE => ?_⟩
            · have := HDW.out.lt hm
              omega
            · rcases List.mem_cons.1 hE with rfl | hE
              · exact ⟨Nat.le_trans HBW.out.size hD, hK⟩
              · exact ⟨(HDW.out.at_ E hE).1, hds E hE⟩
      · exact (hlt (by
          exfalso
          obtain rfl : k = 7 := by omega
          obtain ⟨l, hl⟩ := fewUp_seven ⟨HN2.out.ok, HLE.out⟩
          rw [HUP.out] at hl
          cases hl)).elim
end Go.Proofs.YtgehpaojbnpbcaaGreatDoor
