/-
  The walks of impl's nameableOf, (*nameable).named, (*nameable).good, NamedGraph and IsGoodNaming. Conditions: the argument's memory holds the graph; the package-level errors hold errors. (gennbl.py writes this text.) The walks of impl's (*nameable).good, NamedGraph, IsGoodNaming and nameableUpTo. Conditions: the argument's memory holds the graph; the package-level errors hold errors. (gennbl.py writes this text.) The walks of impl's NamedGraph, IsGoodNaming and nameableUpTo. Conditions: the argument's memory holds the graph; the package-level errors hold errors.
-/
import Derived.Test.YtgehpaojbnpbcaaGreatDoorJOZ
import Derived.Test.YtgehpaojbnpbcaaGreatDoorCanVZ
import Derived.Deep.MidRow
namespace Go.Proofs.YtgehpaojbnpbcaaGreatDoor
open Go Go.RowKit
/-- The package-level errors of namings hold errors. -/
structure NmgErrs (w : World) : Prop where
  trees : TreeErrs w
  several : IsErr w 1
  naming : IsErr w 2
theorem NmgErrs.at {w w' : World} (h : NmgErrs w) (hb : Below w.heap.size w w') : NmgErrs w' where
  trees := h.trees.at hb
  several := h.several.below hb (Nat.lt_of_lt_of_le (by decide) h.trees.size)
  naming := h.naming.below hb (Nat.lt_of_lt_of_le (by decide) h.trees.size)
section
variable {F : Fence} {n : Nat} {P : Program} {md : Region.Mode} {ops : Array Oper} {Q : Exit → Act → World → Prop} {S : World → Prop} {L : Nat}
/-- KeptAny.take with what is only computed. -/
theorem KeptAny.tk {oi : Oper} {v : Value} {k : Nat} {l : Array Bool} {a : Act} {w : World} (i : Nat) (hS : S w) (hrun : ∀ w, S w → (execOp a.eval oi).run P w = .ok (.value v) w)
    (h : KeptAny F n P md ops Q S L k (l.setIfInBounds i true) (a.put oi.dst v) w) (hi : ops[i]? = some oi := by rfl) (hL : waitsFor md ops L i = true := by kernel_rfl) (hro : F.round = none := by rfl) (hs : Region.noSelect ops = true := by kernel_rfl)
    (hf : Region.free md ops l i = true := by kernel_rfl) (hr : (Region.ready md ops l).contains i = true := by kernel_rfl) (hQ : ∀ c a w, Q (.panic c) (a.put oi.dst v) w → Q (.panic c) a w := by exact fun _ _ _ h => h)
    (hw : Region.wanted oi (yielded ops a.tmps) = true := by kernel_rfl) (hab : ∀ w, oi.about P w a.eval = none := by exact fun _ => rfl) : KeptAny F n P md ops Q S L (k + 1) l a w :=
  KeptAny.take hL hro hi hs hf hr hQ hw hrun hab hS h
end
theorem cell_set_ne {w : World} {a b : Nat} {o : Nat} (h : a ≠ b) (v : Value) : (w.setCell ⟨b, o, none⟩ v).cell? ⟨a, 0, none⟩ = w.cell? ⟨a, 0, none⟩ :=
  World.cell?_of_block (a := ⟨a, 0, none⟩) (Below.heap_setCell _ _ _ _ (by show a ≠ b; exact h))
/-- The table tells whether an item means several declarations. -/
theorem clear_table {ss : List Sc} (hv : Valid ss) : (∃ k, k < 30 ∧ tabF ss k = -1) ↔ ¬ Clear ss := by
  constructor
  · rintro ⟨k, -, hk⟩ hc
    exact clear_tab.1 hc _ _ hk
  · intro hc
    refine Classical.byContradiction fun hn => hc (fun q hq => ?_)
    obtain ⟨i, j, x⟩ := q
    obtain ⟨s, h1, h2⟩ := placed_at hq
    dsimp only at h1 h2
    have a1 := (List.getElem?_eq_some_iff.1 h1).1
    have a2 := (List.getElem?_eq_some_iff.1 h2).1
    have a3 := hv.count.2
    have a4 := hv.five s (List.mem_of_getElem? h1)
    have e1 : (i * 5 + j) / 5 = i := by omega
    have e2 : (i * 5 + j) % 5 = j := by omega
    refine Nat.not_lt.1 fun hlt => hn ⟨i * 5 + j, by omega, ?_⟩
    unfold tabF tabT
    rw [e1, e2, meanAt_of hq]
    exact boundT_several.2 hlt
theorem exec_build {P : Program} {w : World} {o : Oper} {a : Act} (t : TypeId) (parts : Array (Nat × Operand)) (ho : o.op = .build t parts) (cells : Array Value)
    (hb : P.built t (parts.map fun (i, x) => (i, a.eval x)).toList = some cells) : (execOp a.eval o).run P w = .ok (.value (.agg cells)) w := by
  unfold execOp
  simp only [ho]
  rw [Sem.run_bind, run_build w t _ cells hb]
  rfl
/-- The cells of a nameable. -/
def nbL (ss : List Sc) (oa : Option Addr) (cap : Nat) (od : Option Addr) (cd : Nat) : List Value := .slice oa ss.length cap :: (tblL (tabF ss) ++ [.slice od (dclP ss).length cd])
theorem nbL_tab {ss : List Sc} {oa od : Option Addr} {cap cd k : Nat} (hk : k < 30) : (nbL ss oa cap od cd)[1 + k]? = some (.int .i64 (tabF ss k)) := by
  unfold nbL
  rw [Nat.add_comm 1 k, List.getElem?_cons_succ, List.getElem?_append_left (by rw [tblL_length]; exact hk), tblL_get _ hk]
theorem nbL_dcl {ss : List Sc} {oa od : Option Addr} {cap cd : Nat} : (nbL ss oa cap od cd)[31]? = some (.slice od (dclP ss).length cd) := by
  unfold nbL
  rw [List.getElem?_cons_succ, List.getElem?_append_right (by rw [tblL_length]; exact Nat.le_refl _), tblL_length]
  rfl
theorem own_room {w : World} {B size n c m : Nat} {e : TypeId} {o : Option Addr} {xs : List Value} (h : w.ownsRow B e size (.slice o n c) m xs) : n ≤ c := by
  obtain ⟨-, h2 | ⟨g, cap, cur, hv, -, -, hn, -⟩⟩ := h
  · have h3 := h2.1
    simp only [Value.slice.injEq] at h3
    omega
  · simp only [Value.slice.injEq] at hv
    omega
/-- A nameable in memory. -/
structure NbIs (w : World) (N : Nat) (ss : List Sc) (oa : Option Addr) (cap : Nat) (od : Option Addr) (cd : Nat) : Prop where
  box : Row w N 81 (nbL ss oa cap od cd)
  graph : HoldsScopes w oa ss
  dcls : ArgPlaces w od (dclP ss)
  ok : Valid ss ∧ Clear ss
  room : (dclP ss).length ≤ cd
theorem NbIs.below {w w' : World} {N : Nat} {ss : List Sc} {oa od : Option Addr} {cap cd : Nat} (h : NbIs w N ss oa cap od cd) (hb : Below w.heap.size w w') : NbIs w' N ss oa cap od cd :=
  ⟨h.box.below hb h.box.lt, h.graph.below hb (Nat.le_refl _), h.dcls.below hb, h.ok, h.room⟩
theorem row_table {w : World} {N : Nat} {ss : List Sc} {oa od : Option Addr} {cap cd : Nat} (h : Row w N 81 (nbL ss oa cap od cd)) : TblAt w N 1 (tabF ss) := ⟨h.lt, fun _ hk => h.cell (nbL_tab hk)⟩
theorem NbIs.table {w : World} {N : Nat} {ss : List Sc} {oa od : Option Addr} {cap cd : Nat} (h : NbIs w N ss oa cap od cd) : TblAt w N 1 (tabF ss) := ⟨h.box.lt, fun _ hk => h.box.cell (nbL_tab hk)⟩
theorem NbIs.range {w : World} {N : Nat} {ss : List Sc} {oa od : Option Addr} {cap cd : Nat} (h : NbIs w N ss oa cap od cd) : w.rangeAt N 1 (tblL (tabF ss)) := fun j v hj => by
  have hlt : j < 30 := by have := (List.getElem?_eq_some_iff.1 hj).1; rwa [tblL_length] at this
  rw [tblL_get _ hlt] at hj
  cases hj
  exact h.table.cell j hlt
set_option maxRecDepth 100000 in
set_option maxHeartbeats 8000000 in
theorem nameableOf_any (ss : List Sc) (hF : Fair ss) (oa : Option Addr) (cap : Nat) (w : World) (hc : HoldsScopes w oa ss) (hE : NmgErrs w) :
    Calls Tryz.prog 46 #[.agg #[.slice oa ss.length cap]] w fun e w' => (¬ (Valid ss ∧ Clear ss) ∧ (∃ tp p, e = .returned (.tuple #[.pointer none, .iface tp p])) ∧ Below w.heap.size w w') ∨
      ∃ N od cd, e = .returned (.tuple #[.pointer (some ⟨N, 0, none⟩), .nilIface]) ∧ NbIs w' N ss oa cap od cd ∧ Below w.heap.size w w' := by
  have hb0 := (Below.refl w.heap.size w).alloc (Nat.le_refl _) (.cells #[.slice oa ss.length cap] 28)
  have R1 := Lib.hid (Row.new w [.slice oa ss.length cap] 28)
  have g1 := R1.out.cell (i := 0) (v := .slice oa ss.length cap) (by rfl)
  have C := Lib.hid (resolutionOf_any ss hF oa cap _ (hc.below hb0 (Nat.le_refl _)) (hE.at hb0).trees)
  have HB := Lib.hid hb0
  have HC := Lib.hid hc
  have HE := Lib.hid hE
  clear hb0 hF hc hE
  go_enter Tryz.func46, Tryz.ntmps46
  go_wp2_with fail
  refine C.out.mono ?_
  rintro e w1 (⟨hv, ⟨tp, p, rfl⟩, hb1⟩ | ⟨hv, R, T, M1, M2, MR, v, ds, l, rfl, hb1, hR⟩)
  · have HN : Hid (¬ (Valid ss ∧ Clear ss)) := Lib.hid (fun h => hv h.1)
    have HB1 := Lib.hid (HB.out.trans (hb1.mono HB.out.size))
    clear hv hb1 g1
    go_wp2
    go_ret2
    exact .inl ⟨HN.out, ⟨tp, p, rfl⟩, HB1.out⟩
  · have HV := Lib.hid hv
    have HRR := Lib.hid hR
    have HB1 := Lib.hid (HB.out.trans (hb1.mono HB.out.size))
    have g2 := cell_drew ((R1.out.below hb1 R1.out.lt).cell (i := 0) (v := .slice oa ss.length cap) (by rfl))
    have r0 := cell_drew (hR.box.cell (i := 0) (v := .pointer (some ⟨T, 0, none⟩)) (by rfl))
    have HD1 := Lib.hid ((Below.refl w1.heap.size w1).drew)
    clear hv hb1 hR g1
    go_wp2
    refine wp_region_kept (S := fun w' => w'.cell? ⟨w.heap.size, 0, none⟩ = some (.slice oa ss.length cap) ∧ w'.cell? ⟨R, 0, none⟩ = some (.pointer (some ⟨T, 0, none⟩))) 10 (by kernel_rfl) ?_
    have hS0 := And.intro g2 r0
    have HS0 := Lib.hid hS0
    refine KeptAny.tk (v := ?_) 0 hS0 (fun w' hw' => ?_) ?_
    rotate_left
    · (obtain ⟨g0, g1⟩ := hw'; go_simp; try with_reducible rfl)
    refine KeptAny.tk (v := ?_) 1 hS0 (fun w' hw' => ?_) ?_
    rotate_left
    · (obtain ⟨g0, g1⟩ := hw'; go_simp; try with_reducible rfl)
    refine KeptAny.tk (v := ?_) 3 hS0 (fun w' hw' => ?_) ?_
    rotate_left
    · (obtain ⟨g0, g1⟩ := hw'; go_simp; try with_reducible rfl)
    refine KeptAny.tk (v := ?_) 4 hS0 (fun w' hw' => ?_) ?_
    rotate_left
    · (obtain ⟨g0, g1⟩ := hw'; go_simp; try with_reducible rfl)
    refine KeptAny.tk (v := ?_) 5 hS0 (fun w' hw' => ?_) ?_
    rotate_left
    · (obtain ⟨g0, g1⟩ := hw'; go_simp; try with_reducible rfl)
    refine KeptAny.tk (v := ?_) 6 hS0 (fun w' hw' => ?_) ?_
    rotate_left
    · (obtain ⟨g0, g1⟩ := hw'; go_simp; try with_reducible rfl)
    clear hS0 g2 r0
    refine KeptAny.one (i := 2) (by kernel_rfl) rfl (by kernel_rfl) (fun K hK => ?_)
    go_simp
    refine ⟨trivial, ?_⟩
    refine ((callsIn_wide (n := 5)).2 (bindings_any HV.out (HRR.out.below HD1.out))).mono ?_
    rintro e wa ⟨rfl, hba⟩
    have HBA := Lib.hid (HD1.out.trans (hba.mono HD1.out.size))
    have HSA := Lib.hid (And.intro (cell_grow hba HS0.out.1) (cell_grow hba HS0.out.2))
    refine hK.out _ _ HSA.out (fun _ => ?_)
    clear hK hba
    refine KeptAny.one (i := 7) (by kernel_rfl) rfl (by kernel_rfl) (fun K hK => ?_)
    go_simp
    refine ⟨trivial, ?_⟩
    refine ((callsIn_wide (n := 5)).2 (treePls_any HV.out (HRR.out.tree.below HBA.out) 1)).mono ?_
    rintro e wb ⟨u, rfl, hown, hbb⟩
    rw [show plsP ss 1 = dclP ss from rfl] at hown
    obtain ⟨od, cd, rfl, harg⟩ := argPlaces_of_owns hown
    have HARG := Lib.hid harg
    have HRM := Lib.hid (own_room hown)
    have HBB := Lib.hid (HBA.out.trans (hbb.mono HBA.out.size))
    have HSB := Lib.hid (And.intro (cell_grow hbb HSA.out.1) (cell_grow hbb HSA.out.2))
    refine hK.out _ _ HSB.out (fun _ => ?_)
    clear hK hbb hown harg
    have hS0 := HSB.out
    refine KeptAny.tk (v := .agg (nbL ss oa cap od cd).toArray) 8 hS0 (fun w' hw' => ?_) ?_
    · exact exec_build 81 _ rfl _ (by kernel_rfl)
    clear hS0
    refine KeptAny.one (i := 9) (by kernel_rfl) rfl (by kernel_rfl) (fun K hK => ?_)
    go_simp
    have hbn := (Below.refl wb.heap.size wb).alloc (Nat.le_refl _) (.cells (nbL ss oa cap od cd).toArray 81)
    have hrn : Row (wb.alloc (.cells (nbL ss oa cap od cd).toArray 81)) wb.heap.size 81 (nbL ss oa cap od cd) := Row.new wb (nbL ss oa cap od cd) 81
    refine hK.out _ _ ⟨cell_grow hbn HSB.out.1, cell_grow hbn HSB.out.2⟩ (fun _ => ?_)
    clear hK
    generalize wb.alloc (.cells (nbL ss oa cap od cd).toArray 81) = wc at *
    have HRN := Lib.hid hrn
    have HBC := Lib.hid (HB1.out.trans ((HBB.out.trans (hbn.mono HBB.out.size)).mono HB1.out.size))
    have HAC := Lib.hid (HARG.out.below hbn)
    generalize wb.heap.size = N at *
    clear hbn hrn
    refine KeptAny.last (by kernel_rfl) rfl (by kernel_rfl) (fun K hK => ?_)
    go_simp
    refine hK.out _ _ ?_
    clear hK
    refine KeptAny.done (by kernel_rfl) ?_ _
    have C5 := Lib.hid (has_any (row_table HRN.out) (-1))
    go_wp2_with fail
    refine C5.out.mono ?_
    rintro e w5 ⟨b, rfl, hb, hb5⟩
    have HCB := Lib.hid hb
    have HB5 := Lib.hid (HBC.out.trans (hb5.mono HBC.out.size))
    have HRN5 := Lib.hid (HRN.out.below hb5 HRN.out.lt)
    have HAC5 := Lib.hid (HAC.out.below hb5)
    clear hb hb5
    cases b
    · have HCL : Hid (Clear ss) := Lib.hid (Classical.byContradiction fun h => by have := HCB.out.2 ((clear_table HV.out).2 h); cases this)
      go_wp2
      go_ret2
      exact .inr ⟨N, od, cd, rfl, ⟨HRN5.out, HC.out.below HB5.out (Nat.le_refl _), HAC5.out, ⟨HV.out, HCL.out⟩, HRM.out⟩, HB5.out⟩
    · have HN : Hid (¬ (Valid ss ∧ Clear ss)) := Lib.hid (fun h => (clear_table HV.out).1 (HCB.out.1 rfl) h.2)
      obtain ⟨tp, p, he⟩ := (HE.out.at HB5.out).several
      have he' := cell_drew he
      clear he
      go_wp2
      go_region
      all_goals go_wp2
      all_goals go_ret2
      all_goals exact .inl ⟨HN.out, ⟨tp, p, rfl⟩, HB5.out.drew⟩
/-- What named answers. -/
def NamedGot (ss : List Sc) (names : ByteArray) (w : World) (e : Ending) (w' : World) : Prop :=
  (¬ Naming names (dclP ss).length ∧ (∃ tp p, e = .returned (.tuple #[.agg #[.slice none 0 0], .iface tp p])) ∧ Below w.heap.size w w') ∨
  (Naming names (dclP ss).length ∧ ∃ v hs, e = .returned (.tuple #[.agg #[v], .nilIface]) ∧ OwnGr w' w.heap.size v (nmgG ss names) hs ∧ Below w.heap.size w w')
set_option maxRecDepth 100000 in
set_option maxHeartbeats 8000000 in
theorem named_any (ss : List Sc) (hF : Fair ss) (oa od : Option Addr) (cap cd N : Nat) (names : ByteArray) (hns : names.size ≤ 1048576) (w : World) (hN : NbIs w N ss oa cap od cd) (hE : NmgErrs w) :
    Calls Tryz.prog 47 #[.pointer (some ⟨N, 0, none⟩), .string names] w (NamedGot ss names w) := by
  have hb0 := (Below.refl w.heap.size w).alloc (Nat.le_refl _) (.cells #[.slice none 0 0] 28)
  have RX := Lib.hid (Row.new w [.slice none 0 0] 28)
  have hN0 := hN.below hb0
  have d0 := hN0.box.cell nbL_dcl
  have C := Lib.hid (isNaming_any names hns (dclP ss).length (w.alloc (.cells #[.slice none 0 0] 28)))
  have HB := Lib.hid hb0
  have HF := Lib.hid hF
  have HE := Lib.hid hE
  have HN0 := Lib.hid hN0
  have HC := Lib.hid hN.graph
  clear hb0 hF hE hN hN0
  go_enter Tryz.func47, Tryz.ntmps47
  go_wp2_with fail
  refine C.out.mono ?_
  rintro e w7 ⟨b2, rfl, hb2, rfl⟩
  have HNB := Lib.hid hb2
  clear hb2 d0
  cases b2
  · have HN : Hid (¬ Naming names (dclP ss).length) := Lib.hid (fun h => by have := HNB.out.2 h; cases this)
    obtain ⟨tp, p, he⟩ := (HE.out.at HB.out).naming
    have he' := cell_drew he
    have n0 := RX.out.drew.cell (i := 0) (v := .slice none 0 0) (by rfl)
    have f0 := RX.out.drew.frozen 0
    clear he
    go_wp2
    go_region
    all_goals go_wp2
    all_goals (
      refine bodyPost_ret (v := .tuple #[.agg #[.slice none 0 0], .iface tp p]) (by simp [results, Tryz.results47, go_sem]) rfl (.inl ⟨HN.out, ⟨tp, p, rfl⟩, ?_⟩)
      first
        | exact HB.out.drew
        | exact (HB.out.drew).setCell (p := ⟨w.heap.size, 0, none⟩) (Nat.le_refl _) _
        | exact (HB.out.setCell (p := ⟨w.heap.size, 0, none⟩) (Nat.le_refl _) _).drew)
  · have HOK : Hid (nmgOk ss names) := Lib.hid ⟨HN0.out.ok, HNB.out.1 rfl⟩
    have hS0 := cell_drew (HN0.out.box.cell (i := 0) (v := .slice oa ss.length cap) (by rfl))
    have HS0 := Lib.hid hS0
    have HD0 := Lib.hid ((Below.refl (w.alloc (.cells #[.slice none 0 0] 28)).heap.size (w.alloc (.cells #[.slice none 0 0] 28))).drew)
    generalize w.alloc (.cells #[.slice none 0 0] 28) = w7 at *
    go_wp2
    refine wp_region_kept (S := fun w' => w'.cell? ⟨N, 0, none⟩ = some (.slice oa ss.length cap)) 13 (by kernel_rfl) ?_
    refine KeptAny.tk (v := ?_) 0 hS0 (fun w' hw' => ?_) ?_
    rotate_left
    · (go_simp; try with_reducible rfl)
    refine KeptAny.tk (v := ?_) 1 hS0 (fun w' hw' => ?_) ?_
    rotate_left
    · (go_simp; try with_reducible rfl)
    refine KeptAny.tk (v := ?_) 2 hS0 (fun w' hw' => ?_) ?_
    rotate_left
    · (go_simp; try with_reducible rfl)
    refine KeptAny.tk (v := ?_) 3 hS0 (fun w' hw' => ?_) ?_
    rotate_left
    · (go_simp; try with_reducible rfl)
    refine KeptAny.tk (v := ?_) 4 hS0 (fun w' hw' => ?_) ?_
    rotate_left
    · (go_simp; try with_reducible rfl)
    refine KeptAny.tk (v := ?_) 5 hS0 (fun w' hw' => ?_) ?_
    rotate_left
    · (go_simp; try with_reducible rfl)
    refine KeptAny.tk (v := ?_) 6 hS0 (fun w' hw' => ?_) ?_
    rotate_left
    · (go_simp; try with_reducible rfl)
    refine KeptAny.tk (v := ?_) 7 hS0 (fun w' hw' => ?_) ?_
    rotate_left
    · (go_simp; try with_reducible rfl)
    clear hS0
    refine KeptAny.one (i := 8) (by kernel_rfl) rfl (by kernel_rfl) (fun K hK => ?_)
    go_simp
    refine ⟨trivial, ?_⟩
    refine ((callsIn_wide (n := 5)).2 (renaming_any HOK.out (HN0.out.below HD0.out).table)).mono ?_
    rintro e wa ⟨u, rfl, hu, hba⟩
    have HXA := Lib.hid (HD0.out.trans (hba.mono HD0.out.size))
    have HU := Lib.hid hu
    have HSA := Lib.hid (cell_grow hba HS0.out)
    refine hK.out _ _ HSA.out (fun _ => ?_)
    clear hK hu hba
    refine KeptAny.one (i := 9) (by kernel_rfl) rfl (by kernel_rfl) (fun K hK => ?_)
    go_simp
    refine hK.out _ _ HSA.out (fun _ => ?_)
    clear hK
    have hbb := (Below.refl wa.heap.size wa).alloc (Nat.le_refl _) (.cells #[.func (.func 79) #[u] #[]] 168)
    have HSB := Lib.hid (cell_grow hbb HSA.out)
    have HV := Lib.hid HOK.out.1.1
    have E6 := Lib.hid (edit_on (us := ss) HU.out (by have := HV.out.count.2; omega) (fun s hs => by have := HV.out.five s hs; omega))
    have HWA := Lib.hid (HB.out.trans (HXA.out.mono HB.out.size))
    have W6 := Lib.hid (with_one ss _ HF.out HV.out.count.1 oa cap _ wa (HC.out.below HWA.out (Nat.le_refl _)) E6.out)
    rw [show renP ss (nmgF ss names) = nmgG ss names from rfl] at W6
    clear hbb
    refine KeptAny.one (i := 10) (by kernel_rfl) rfl (by kernel_rfl) (fun K hK => ?_)
    go_simp
    refine hK.out _ _ HSB.out (fun _ => ?_)
    clear hK
    refine KeptAny.one (i := 11) (by kernel_rfl) rfl (by kernel_rfl) (fun K hK => ?_)
    go_simp
    refine ⟨trivial, ?_⟩
    refine ((callsIn_wide (n := 5)).2 W6.out).mono ?_
    rintro e wc ⟨vc, hs, rfl, hO, hbc⟩
    obtain ⟨ov, cv, rfl, -⟩ := hO.holds
    have HXC := Lib.hid (HXA.out.trans (hbc.mono HXA.out.size))
    have HO := Lib.hid (hO.lower HWA.out.size)
    have HWC := Lib.hid (HWA.out.trans (hbc.mono HWA.out.size))
    have RC2 := Lib.hid (RX.out.below HXC.out RX.out.lt)
    have HSC := Lib.hid (cell_grow hbc HSA.out)
    have n0 := RC2.out.cell (i := 0) (v := .slice none 0 0) (by rfl)
    have f0 := RC2.out.frozen 0
    refine hK.out _ _ HSC.out (fun _ => ?_)
    clear hK hO hbc
    have RT := RC2.out.set 0 (.slice ov (nmgG ss names).length cv)
    have HNX : Hid (N ≠ w.heap.size) := Lib.hid (by
      have h1 := RX.out
      have h2 := HN0.out.box
      rintro rfl
      unfold Row at h1 h2
      rw [h1] at h2
      injection h2 with h2
      injection h2 with _ h4 _
      exact absurd h4 (by decide))
    have HSD := Lib.hid ((cell_set_ne HNX.out _).trans HSC.out : (wc.setCell ⟨w.heap.size, 0, none⟩ (.slice ov (nmgG ss names).length cv)).cell? ⟨N, 0, none⟩ = _)
    have HO7 : Hid (OwnGr (wc.setCell ⟨w.heap.size, 0, none⟩ (.slice ov (nmgG ss names).length cv)) w.heap.size (.slice ov (nmgG ss names).length cv) (nmgG ss names) hs) := Lib.hid
      ⟨HO.out.len, ownsRow_otherN HO.out.row RC2.out (by decide) 0 _, fun k t z h1 h2 => ownsRow_otherN (HO.out.items k t z h1 h2) RC2.out (by decide) 0 _, HO.out.apart⟩
    refine KeptAny.one (i := 12) (by kernel_rfl) rfl (by kernel_rfl) (fun K hK => ?_)
    go_simp
    refine hK.out _ _ HSD.out (fun _ => ?_)
    clear hK n0 f0
    refine KeptAny.last (by kernel_rfl) rfl (by kernel_rfl) (fun K hK => ?_)
    go_simp
    refine hK.out _ _ ?_
    clear hK
    refine KeptAny.done (by kernel_rfl) ?_ _
    go_wp2
    have d0 := RT.cell (i := 0) (v := .slice ov (nmgG ss names).length cv) (by rfl)
    refine bodyPost_ret (v := .tuple #[.agg #[.slice ov (nmgG ss names).length cv], .nilIface]) (by simp [results, Tryz.results47, go_sem, d0]) rfl (.inr ⟨HOK.out.2, _, hs, rfl, HO7.out, HWC.out.setCell (p := ⟨w.heap.size, 0, none⟩) (Nat.le_refl _) _⟩)
end Go.Proofs.YtgehpaojbnpbcaaGreatDoor
namespace Go.Proofs.YtgehpaojbnpbcaaGreatDoor
open Go Go.RowKit
theorem tabs_eq {ss : List Sc} (hv : Valid ss) {f : NameF} : (∀ k, k < 30 → tabF (renP ss f) k = tabF ss k) ↔ ∀ i j, tabT ss i j = tabT (renP ss f) i j := by
  constructor
  · intro h i j
    by_cases hn : itemAtP ss (i : Int) (j : Int) = none
    · have e1 : meanAt ss (i : Int) (j : Int) = [] := by unfold meanAt; rw [hn]
      have e2 : meanAt (renP ss f) (i : Int) (j : Int) = [] := Decidable.byContradiction fun hne => by
        obtain ⟨y, hy, -⟩ := mean_ofAt hne
        obtain ⟨x, hx, -⟩ := placed_unren hy
        have := placed_item hx
        dsimp only at this
        rw [hn] at this
        cases this
      unfold tabT
      rw [dcl_ren, e1, e2]
    · obtain ⟨x, hx⟩ := Option.ne_none_iff_exists'.1 hn
      obtain ⟨c, d, h1, h2, hq⟩ := item_placed hx
      obtain rfl : i = c := by omega
      obtain rfl : j = d := by omega
      obtain ⟨s, h3, h4⟩ := placed_at hq
      dsimp only at h3 h4
      have a1 := (List.getElem?_eq_some_iff.1 h3).1
      have a2 := (List.getElem?_eq_some_iff.1 h4).1
      have a3 := hv.count.2
      have a4 := hv.five s (List.mem_of_getElem? h3)
      have e1 : (i * 5 + j) / 5 = i := by omega
      have e2 : (i * 5 + j) % 5 = j := by omega
      have h5 := h (i * 5 + j) (by omega)
      unfold tabF at h5
      rw [e1, e2] at h5
      exact h5.symm
  · intro h k _
    unfold tabF
    exact (h _ _).symm
theorem exec_load_mid {P : Program} {w : World} {o : Oper} {a : Act} (ty : TypeId) (x : Operand) (ho : o.op = .load ty x) (b k : Nat) (hx : a.eval x = .pointer (some ⟨b, k, none⟩)) (cs : List Value) (d : TypeDesc) (hc : w.rangeAt b k cs)
    (hu : P.underlying ty = some d) (hd : d.isRow = true) (hi : (P.info? ty).map (·.size) = some cs.length) : (execOp a.eval o).run P w = .ok (.value (.agg cs.toArray)) w := by
  unfold execOp
  simp only [ho, hx, Instr.loadAt, Instr.sureAddr, Sem.run_bind, Sem.run_pure, Result.andThen_ok, run_loadVar_mid w b k ty cs d hc hu hd hi]
theorem tab_guard : Tryz.prog.eqGuardType Tryz.prog.depth 79 = false := by kernel_rfl
theorem eqT_dec (W0 : World) (f g : Nat → Int) : ∃ b, (∀ W, (Op.equalIn 10000 79 (.agg (tblL f).toArray) (.agg (tblL g).toArray)).run Tryz.prog W = .ok b W) ∧ (b = true ↔ ∀ k, k < 30 → f k = g k) := by
  obtain ⟨b, h1, h2⟩ := eqT_run 9997 f g W0
  refine ⟨b, fun W => ?_, h2⟩
  obtain ⟨c, h3, h4⟩ := eqT_run 9997 f g W
  have : c = b := Bool.eq_iff_iff.2 (h4.trans h2.symm)
  rw [← this]
  exact h3
theorem eqlT {ty : TypeId} {f g : Nat → Int} {b : Bool} (h : ∀ W, (Op.equalIn 10000 ty (.agg (tblL f).toArray) (.agg (tblL g).toArray)).run Tryz.prog W = .ok b W) (W : World) : (binOp .eql ty (.agg (tblL f).toArray) (.agg (tblL g).toArray)).run Tryz.prog W = .ok (.bool b) W := by
  rw [run_eql_struct, h W]
  rfl
theorem rangeAt_below {w w' : World} {b o n : Nat} {cs : List Value} (h : w.rangeAt b o cs) (hb : Below n w w') (hl : b < n) : w'.rangeAt b o cs := fun j v hj => (World.cell?_of_block (a := ⟨b, o + j, none⟩) (hb.block b hl)).trans (h j v hj)
set_option maxRecDepth 100000 in
set_option maxHeartbeats 8000000 in
theorem good_any (ss : List Sc) (hF : Fair ss) (oa od : Option Addr) (cap cd N : Nat) (names : ByteArray) (hns : names.size ≤ 1048576) (w : World) (hN : NbIs w N ss oa cap od cd) (hE : NmgErrs w) :
    Calls Tryz.prog 119 #[.pointer (some ⟨N, 0, none⟩), .string names] w fun e w' => ∃ ok, e = .returned (.bool ok) ∧ CanVal (nmgOk ss names) (chgA ss (nmgG ss names)) ok ∧ Below w.heap.size w w' := by
  have C := Lib.hid (named_any ss hF oa od cap cd N names hns w hN hE)
  have HF := Lib.hid hF
  have HE := Lib.hid hE
  have HN0 := Lib.hid hN
  clear hF hE hN
  go_enter Tryz.func119, Tryz.ntmps119
  go_wp2_with fail
  refine C.out.mono ?_
  rintro e w1 (⟨hn, ⟨tp, p, rfl⟩, hb1⟩ | ⟨hok, v, hs, rfl, hO, hb1⟩)
  · have HN : Hid (¬ nmgOk ss names) := Lib.hid (fun h => hn h.2)
    have HB1 := Lib.hid (hb1.trans (((Below.refl w1.heap.size w1).alloc (Nat.le_refl _) (.cells #[.slice none 0 0] 28)).mono hb1.size))
    clear hn hb1
    go_wp2
    go_ret
    exact ⟨false, rfl, .inl ⟨HN.out, rfl⟩, HB1.out⟩
  · have HOK : Hid (nmgOk ss names) := Lib.hid ⟨HN0.out.ok, hok⟩
    obtain ⟨ov, cv, rfl, -⟩ := hO.holds
    have hbN := (Below.refl w1.heap.size w1).alloc (Nat.le_refl _) (.cells #[.slice ov (nmgG ss names).length cv] 28)
    have RN := Row.new w1 [.slice ov (nmgG ss names).length cv] 28
    have n1 := RN.cell (i := 0) (v := .slice ov (nmgG ss names).length cv) (by rfl)
    have HB1 := Lib.hid (hb1.trans (hbN.mono hb1.size))
    have C2 := Lib.hid (resolutionOf_any (nmgG ss names) (nmgOk.fair HF.out HOK.out) ov cv _ (hO.below hbN).holdsS (HE.out.at HB1.out).trees)
    clear hb1 hok hO hbN RN
    go_wp2_with fail
    refine C2.out.mono ?_
    rintro e w2 (⟨hv, -, -⟩ | ⟨hv, R, T, M1, M2, MR, v, ds, l, rfl, hb2, hR⟩)
    · exact absurd HOK.out.valid hv
    obtain ⟨b, hb, hbq⟩ := eqT_dec w2 (tabF (nmgG ss names)) (tabF ss)
    have HBB := Lib.hid hbq
    have hq := eqlT hb
    have hgd := tab_guard
    have HRR := Lib.hid hR
    have HB2 := Lib.hid (HB1.out.trans (hb2.mono HB1.out.size))
    have HD2 := Lib.hid ((Below.refl w2.heap.size w2).drew)
    have HNL : Hid (N < w2.heap.size) := Lib.hid (HN0.out.below HB2.out).box.lt
    have hS0 := ((HN0.out.below HB2.out).below HD2.out).range
    have HS0 := Lib.hid hS0
    clear n1 hv hbq hb hb2 hR
    go_wp2
    refine wp_region_kept (S := fun w' => w'.rangeAt N 1 (tblL (tabF ss))) 11 (by kernel_rfl) ?_
    refine KeptAny.tk (v := ?_) 0 hS0 (fun w' hw' => ?_) ?_
    rotate_left
    · (go_simp; try with_reducible rfl)
    refine KeptAny.tk (v := ?_) 1 hS0 (fun w' hw' => ?_) ?_
    rotate_left
    · (go_simp; try with_reducible rfl)
    refine KeptAny.tk (v := ?_) 2 hS0 (fun w' hw' => ?_) ?_
    rotate_left
    · (go_simp; try with_reducible rfl)
    refine KeptAny.tk (v := ?_) 3 hS0 (fun w' hw' => ?_) ?_
    rotate_left
    · (go_simp; try with_reducible rfl)
    refine KeptAny.tk (v := ?_) 5 hS0 (fun w' hw' => ?_) ?_
    rotate_left
    · (go_simp; try with_reducible rfl)
    refine KeptAny.tk (v := ?_) 6 hS0 (fun w' hw' => ?_) ?_
    rotate_left
    · (go_simp; try with_reducible rfl)
    refine KeptAny.tk (v := ?_) 7 hS0 (fun w' hw' => ?_) ?_
    rotate_left
    · (go_simp; try with_reducible rfl)
    refine KeptAny.tk (v := .agg (tblL (tabF ss)).toArray) 8 hS0 (fun w' hw' => ?_) ?_
    · exact exec_load_mid 79 (.tmp 28) (by kernel_rfl) N 1 (by kernel_rfl) (tblL (tabF ss)) _ hw' Tryz.underlying79 rfl (by kernel_rfl)
    clear hS0
    refine KeptAny.one (i := 4) (by kernel_rfl) rfl (by kernel_rfl) (fun K hK => ?_)
    go_simp
    refine ⟨trivial, ?_⟩
    refine ((callsIn_wide (n := 5)).2 (bindings_any HOK.out.valid (HRR.out.below HD2.out))).mono ?_
    rintro e wa ⟨rfl, hb⟩
    have HD := Lib.hid ((HB2.out.drew).trans (hb.mono HB2.out.size))
    have hS0 := rangeAt_below HS0.out hb HNL.out
    clear hb
    refine hK.out _ _ hS0 (fun _ => ?_)
    clear hK
    refine KeptAny.tk (v := .bool b) 9 hS0 (fun w' hw' => ?_) ?_
    · (go_simp; try with_reducible rfl)
    refine KeptAny.tk (v := .bool b) 10 hS0 (fun w' hw' => ?_) ?_
    · (go_simp; try with_reducible rfl)
    refine KeptAny.last (by kernel_rfl) rfl (by kernel_rfl) (fun K hK => ?_)
    go_simp
    refine hK.out _ _ ?_
    clear hK
    refine KeptAny.done (by kernel_rfl) ?_ _
    go_wp2
    go_ret
    refine ⟨_, rfl, .inr ⟨HOK.out, ?_⟩, HD.out⟩
    rw [Bool.eq_iff_iff, decide_eq_true_iff]
    exact HBB.out.trans ((tabs_eq HOK.out.1.1).trans (chg_tab HOK.out.1.1 HOK.out.1.2 HOK.out.valid).symm)
end Go.Proofs.YtgehpaojbnpbcaaGreatDoor
namespace Go.Proofs.YtgehpaojbnpbcaaGreatDoor
open Go Go.RowKit
set_option maxRecDepth 100000 in
set_option maxHeartbeats 4000000 in
theorem implNamed_any (ss : List Sc) (hF : Fair ss) (oa : Option Addr) (cap : Nat) (names : ByteArray) (hns : names.size ≤ 1048576) (w : World) (hc : HoldsScopes w oa ss) (hE : NmgErrs w) :
    Calls Tryz.prog 25 #[.agg #[.slice oa ss.length cap], .string names] w (GrGot (nmgOk ss names) (nmgG ss names) w) := by
  have hb0 := ((Below.refl w.heap.size w).alloc (Nat.le_refl _) (.cells #[.slice oa ss.length cap] 28)).alloc (by simp) (.cells #[.slice none 0 0] 28)
  have R1 := (Row.new w [.slice oa ss.length cap] 28).alloc (.cells #[.slice none 0 0] 28)
  have R2 := Row.new (w.alloc (.cells #[.slice oa ss.length cap] 28)) [.slice none 0 0] 28
  rw [World.size_alloc] at R2
  have R2 := Lib.hid R2
  have C := Lib.hid (nameableOf_any ss hF oa cap _ (hc.below hb0 (Nat.le_refl _)) (hE.at hb0))
  have HB := Lib.hid hb0
  have HF := Lib.hid hF
  have HE := Lib.hid hE
  have g1 := R1.cell (i := 0) (v := .slice oa ss.length cap) (by rfl)
  clear hb0 hF hc hE R1
  go_enter Tryz.func25, Tryz.ntmps25
  go_wp2_with fail
  refine C.out.mono ?_
  rintro e w1 (⟨hn, ⟨tp, p, rfl⟩, hb1⟩ | ⟨N, od, cd, rfl, hN, hb1⟩)
  · have HN : Hid (¬ nmgOk ss names) := Lib.hid (fun h => hn h.1)
    have HB1 := Lib.hid (HB.out.trans (hb1.mono HB.out.size))
    have RS2 := Lib.hid (R2.out.below hb1 R2.out.lt)
    have n0 := RS2.out.cell (i := 0) (v := .slice none 0 0) (by rfl)
    have f0 := RS2.out.frozen 0
    clear hb1 hn g1
    go_wp2
    have RT := RS2.out.set 0 (.slice none 0 0)
    have d0 := RT.cell (i := 0) (v := .slice none 0 0) (by rfl)
    exact bodyPost_ret (v := .tuple #[.agg #[.slice none 0 0], .bool false]) (by simp [results, Tryz.results25, go_sem, d0]) rfl (.inl ⟨HN.out, _, [], rfl, OwnGr.nil _ _, HB1.out.setCell (p := ⟨w.heap.size + 1, 0, none⟩) (Nat.le_succ _) _⟩)
  · have HB1 := Lib.hid (HB.out.trans (hb1.mono HB.out.size))
    have RS2 := Lib.hid (R2.out.below hb1 R2.out.lt)
    have HOK0 := Lib.hid hN.ok
    have C2 := Lib.hid (named_any ss HF.out oa od cap cd N names hns w1 hN (HE.out.at HB1.out))
    clear hb1 hN g1
    go_wp2_with fail
    refine C2.out.mono ?_
    rintro e w2 (⟨hn, ⟨tp, p, rfl⟩, hb2⟩ | ⟨hok, v, hs, rfl, hO, hb2⟩)
    · have HN : Hid (¬ nmgOk ss names) := Lib.hid (fun h => hn h.2)
      have hbx := (Below.refl w2.heap.size w2).alloc (Nat.le_refl _) (.cells #[.slice none 0 0] 28)
      have hb3 := hb2.trans (hbx.mono hb2.size)
      have HB2 := Lib.hid (HB1.out.trans (hb3.mono HB1.out.size))
      have RS3 := Lib.hid (RS2.out.below hb3 RS2.out.lt)
      have n1 := cell_drew ((Row.new w2 [.slice none 0 0] 28).cell (i := 0) (v := .slice none 0 0) (by rfl))
      have n0 := RS3.out.drew.cell (i := 0) (v := .slice none 0 0) (by rfl)
      have f0 := RS3.out.drew.frozen 0
      clear hb2 hn hbx hb3
      go_wp2
      go_region
      all_goals go_wp2
      all_goals (
        have RT := RS3.out.set 0 (.slice none 0 0)
        have d0 := RT.cell (i := 0) (v := .slice none 0 0) (by rfl)
        refine bodyPost_ret (v := .tuple #[.agg #[.slice none 0 0], .bool false]) (by simp [results, Tryz.results25, go_sem, d0]) rfl (.inl ⟨HN.out, _, [], rfl, OwnGr.nil _ _, ?_⟩)
        first
          | exact (HB2.out.drew).setCell (p := ⟨w.heap.size + 1, 0, none⟩) (Nat.le_succ _) _
          | exact (HB2.out.setCell (p := ⟨w.heap.size + 1, 0, none⟩) (Nat.le_succ _) _).drew)
    · have HOK : Hid (nmgOk ss names) := Lib.hid ⟨HOK0.out, hok⟩
      obtain ⟨ov, cv, rfl, -⟩ := hO.holds
      have hbx := (Below.refl w2.heap.size w2).alloc (Nat.le_refl _) (.cells #[.slice ov (nmgG ss names).length cv] 28)
      have hb3 := hb2.trans (hbx.mono hb2.size)
      have HB2 := Lib.hid (HB1.out.trans (hb3.mono HB1.out.size))
      have RS3 := Lib.hid (RS2.out.below hb3 RS2.out.lt)
      have HOS := Lib.hid ((hO.below hbx).lower HB1.out.size)
      have n1 := cell_drew ((Row.new w2 [.slice ov (nmgG ss names).length cv] 28).cell (i := 0) (v := .slice ov (nmgG ss names).length cv) (by rfl))
      have n0 := RS3.out.drew.cell (i := 0) (v := .slice none 0 0) (by rfl)
      have f0 := RS3.out.drew.frozen 0
      clear hb2 hok hbx hb3 hO
      go_wp2
      go_region
      all_goals go_wp2
      all_goals (
        have RT := RS3.out.set 0 (.slice ov (nmgG ss names).length cv)
        have d0 := RT.cell (i := 0) (v := .slice ov (nmgG ss names).length cv) (by rfl)
        have HOT := (show OwnGr _ w.heap.size (.slice ov (nmgG ss names).length cv) (nmgG ss names) hs from ⟨HOS.out.len, ownsRow_otherN HOS.out.row RS3.out (by decide) 0 (.slice ov (nmgG ss names).length cv), fun k t z h1 h2 => ownsRow_otherN (HOS.out.items k t z h1 h2) RS3.out (by decide) 0 (.slice ov (nmgG ss names).length cv), HOS.out.apart⟩)
        refine bodyPost_ret (v := .tuple #[.agg #[.slice ov (nmgG ss names).length cv], .bool true]) (by simp [results, Tryz.results25, go_sem, d0]) rfl (.inr ⟨HOK.out, _, hs, rfl, ?_, ?_⟩)
        · exact HOT.below ((Below.refl _ _).drew)
        · first
            | exact (HB2.out.drew).setCell (p := ⟨w.heap.size + 1, 0, none⟩) (Nat.le_succ _) _
            | exact (HB2.out.setCell (p := ⟨w.heap.size + 1, 0, none⟩) (Nat.le_succ _) _).drew)
/-- With the error of too many declarations. -/
structure FewErrs (w : World) : Prop where
  nmg : NmgErrs w
  many : IsErr w 0
theorem FewErrs.at {w w' : World} (h : FewErrs w) (hb : Below w.heap.size w w') : FewErrs w' where
  nmg := h.nmg.at hb
  many := h.many.below hb (Nat.lt_of_lt_of_le (by decide) h.nmg.trees.size)
set_option maxRecDepth 100000 in
theorem nameableUpTo_any (ss : List Sc) (hF : Fair ss) (oa : Option Addr) (cap : Nat) (most : Nat) (w : World) (hc : HoldsScopes w oa ss) (hE : FewErrs w) :
    Calls Tryz.prog 42 #[.agg #[.slice oa ss.length cap], .int .i64 (most : Int)] w fun e w' => (¬ ((Valid ss ∧ Clear ss) ∧ (dclP ss).length ≤ most) ∧ (∃ tp p, e = .returned (.tuple #[.pointer none, .iface tp p])) ∧ Below w.heap.size w w') ∨
      (dclP ss).length ≤ most ∧ ∃ N od cd, e = .returned (.tuple #[.pointer (some ⟨N, 0, none⟩), .nilIface]) ∧ NbIs w' N ss oa cap od cd ∧ Below w.heap.size w w' := by
  have hb0 := (Below.refl w.heap.size w).alloc (Nat.le_refl _) (.cells #[.slice oa ss.length cap] 28)
  have g1 := (Row.new w [.slice oa ss.length cap] 28).cell (i := 0) (v := .slice oa ss.length cap) (by rfl)
  have C := Lib.hid (nameableOf_any ss hF oa cap _ (hc.below hb0 (Nat.le_refl _)) (hE.at hb0).nmg)
  have HB := Lib.hid hb0
  have HE := Lib.hid hE
  clear hb0 hF hc hE
  go_enter Tryz.func42, Tryz.ntmps42
  go_wp2_with fail
  refine C.out.mono ?_
  rintro e w1 (⟨hn, ⟨tp, p, rfl⟩, hb1⟩ | ⟨N, od, cd, rfl, hN, hb1⟩)
  · have HN : Hid (¬ ((Valid ss ∧ Clear ss) ∧ (dclP ss).length ≤ most)) := Lib.hid (fun h => hn h.1)
    have HB1 := Lib.hid (HB.out.trans (hb1.mono HB.out.size))
    clear hb1 hn g1
    go_wp2
    go_ret2
    exact .inl ⟨HN.out, ⟨tp, p, rfl⟩, HB1.out⟩
  · have HB1 := Lib.hid (HB.out.trans (hb1.mono HB.out.size))
    have HNB := Lib.hid hN
    have d0 := hN.box.cell nbL_dcl
    by_cases hle : (dclP ss).length ≤ most
    · have HL := Lib.hid hle
      have e2 : ¬ ((most : Int) < ((dclP ss).length : Int)) := by omega
      clear hb1 hN g1 hle
      go_wp2
      go_ret2
      exact .inr ⟨HL.out, N, od, cd, rfl, HNB.out, HB1.out⟩
    · have HN : Hid (¬ ((Valid ss ∧ Clear ss) ∧ (dclP ss).length ≤ most)) := Lib.hid (fun h => hle h.2)
      have e1 : (most : Int) < ((dclP ss).length : Int) := by omega
      obtain ⟨tp, p, he⟩ := (HE.out.at HB1.out).many
      have he' := cell_drew he
      clear hb1 hN g1 he hle
      go_wp2
      go_region
      all_goals go_wp2
      all_goals go_ret2
      all_goals exact .inl ⟨HN.out, ⟨tp, p, rfl⟩, HB1.out.drew⟩
end Go.Proofs.YtgehpaojbnpbcaaGreatDoor
