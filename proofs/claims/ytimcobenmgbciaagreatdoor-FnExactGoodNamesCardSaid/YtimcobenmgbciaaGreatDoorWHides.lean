/-
  The walks of HidesOf, the given one's and impl's. Conditions: the argument's memory holds the graph; the package-level errors hold errors.
-/
import Derived.Test.YtimcobenmgbciaaGreatDoorJD
import Derived.Test.YtimcobenmgbciaaGreatDoorWImplLook
import Derived.Test.YtimcobenmgbciaaGreatDoorJE
namespace Go.Proofs.YtimcobenmgbciaaGreatDoor
open Go Go.RowKit Go.Maps
/-- Is a declaration at a place? -/
def declAt (ss : List Sc) (a b : Int) : Prop := Valid ss ∧ ∃ x, itemAtP ss a b = some x ∧ x.kind = 1
theorem hidesAt_of {ss : List Sc} {i j : Nat} {x : It} (h : itemAtP ss (i : Int) (j : Int) = some x) : hidesAt ss (i : Int) (j : Int) = hidesIt ss i x.name := by
  unfold hidesAt
  rw [h, Int.toNat_natCast]
theorem hidesAt_short {ss : List Sc} {a b : Int} (h : declAt ss a b) : (hidesAt ss a b).length ≤ 1000 := by
  obtain ⟨hv, x, hx, _⟩ := h
  unfold hidesAt
  rw [hx]
  have := hidesIt_length hv a.toNat x.name
  show (hidesIt ss a.toNat x.name).length ≤ 1000
  omega
end Go.Proofs.YtimcobenmgbciaaGreatDoor
namespace Go.Proofs.YtimcobenmgbciaaGreatDoor
open Go Go.RowKit Go.Maps
attribute [local go_sem ↓] field_places
end Go.Proofs.YtimcobenmgbciaaGreatDoor
namespace Go.Proofs.YtimcobenmgbciaaGreatDoor
open Go Go.RowKit Go.Maps
theorem build_item0 (w : World) : (Instr.build 51 #[]).run Tryz.prog w = .ok (.agg #[.int .i64 0, .string ⟨#[]⟩, .int .i64 0]) w := by kernel_rfl
attribute [local go_sem ↓] build_item0
/-- The package-level errors of declarations hold errors. -/
structure DeclErrs (w : World) : Prop where
  trees : TreeErrs w
  decl : IsErr w 0
theorem DeclErrs.at {w w' : World} (h : DeclErrs w) (hb : Below w.heap.size w w') : DeclErrs w' where
  trees := h.trees.below hb h.trees.size
  decl := h.decl.below hb (Nat.lt_of_lt_of_le (by decide) h.trees.size)
def DeclGot (ss : List Sc) (a b : Int) (w : World) (e : Ending) (w' : World) : Prop :=
  (¬ declAt ss a b ∧ (∃ tp p, e = .returned (.tuple #[.pointer none, .agg #[.int .i64 0, .string ⟨#[]⟩, .int .i64 0], .iface tp p])) ∧ Below w.heap.size w w') ∨
  (Valid ss ∧ ∃ (i j : Nat) (x : It) (T M1 M2 B : Nat) (v : Value) (ds : List Nd), a = (i : Int) ∧ b = (j : Int) ∧ itemAtP ss a b = some x ∧ x.kind = 1 ∧ (i, j, x) ∈ placed 0 ss ∧ e = .returned (.tuple #[.pointer (some ⟨T, 0, none⟩), .agg #[.int .i64 x.kind, .string x.name, .int .i64 x.scope], .nilIface]) ∧ Below w.heap.size w w' ∧ w.heap.size ≤ B ∧ TreeIs w' B T M1 M2 v ds ss)
theorem heap_set3 (W : World) (g : Nat) (v0 v1 v2 : Value) {b : Nat} (h : b ≠ g) : (((W.setCell ⟨g, 0, none⟩ v0).setCell ⟨g, 1, none⟩ v1).setCell ⟨g, 2, none⟩ v2).drew.heap[b]? = W.heap[b]? := by
  show (((W.setCell ⟨g, 0, none⟩ v0).setCell ⟨g, 1, none⟩ v1).setCell ⟨g, 2, none⟩ v2).heap[b]? = W.heap[b]?
  rw [Below.heap_setCell _ _ _ _ h, Below.heap_setCell _ _ _ _ h, Below.heap_setCell _ _ _ _ h]
theorem cell_heap {W W' : World} {b o : Nat} (h : W'.heap[b]? = W.heap[b]?) : W'.cell? ⟨b, o, none⟩ = W.cell? ⟨b, o, none⟩ := by simp [World.cell?, h]
theorem kind_pos {ss : List Sc} (hv : Valid ss) {i : Nat} {s : Sc} (hs : ss[i]? = some s) {j : Nat} {x : It} (hx : s.items[j]? = some x) : 1 ≤ x.kind := by
  have h := item_of hv (q := (i, j, x)) (mem_placed.2 ⟨s, Nat.zero_le _, by simpa using hs, hx⟩)
  unfold itemB inB at h
  simp only [Bool.and_eq_true, decide_eq_true_eq] at h
  exact h.1.2.1
/-- Items never lie in a row that holds no item. -/
theorem HoldsItems.apart {W : World} {oi : Option Addr} {xs : List It} (h : HoldsItems W oi xs) (hk : ∀ (j : Nat) (x : It), xs[j]? = some x → 1 ≤ x.kind) {g : Nat} (hr : Row W g 51 [.int .i64 0, .string ⟨#[]⟩, .int .i64 0]) {W' : World} (hw : ∀ b, b ≠ g → W'.heap[b]? = W.heap[b]?) (hs : W.heap.size ≤ W'.heap.size) : HoldsItems W' oi xs := by
  rcases h with h | ⟨b, off, h1, h2, h3⟩
  · exact .inl h
  · cases xs with
    | nil => exact .inl rfl
    | cons x r =>
      have hne : b ≠ g := by
        rintro rfl
        obtain ⟨c0, _, _⟩ := h3 0 x rfl
        have hk0 := hk 0 x rfl
        rw [Nat.zero_mul, Nat.add_zero] at c0
        unfold Row at hr
        match off, c0 with
        | 0, c0 => simp [World.cell?, hr] at c0; omega
        | 1, c0 => simp [World.cell?, hr] at c0
        | 2, c0 => simp [World.cell?, hr] at c0; omega
        | n + 3, c0 => simp [World.cell?, hr] at c0
      refine .inr ⟨b, off, h1, Nat.lt_of_lt_of_le h2 hs, fun i y hy => ?_⟩
      obtain ⟨k0, k1, k2⟩ := h3 i y hy
      exact ⟨(cell_heap (hw b hne)).trans k0, (cell_heap (hw b hne)).trans k1, (cell_heap (hw b hne)).trans k2⟩
theorem TreeIs.apart {W W' : World} {B T M1 M2 g : Nat} {v : Value} {ds : List Nd} {ss : List Sc} (hv : Valid ss) (h : TreeIs W B T M1 M2 v ds ss) (hg : g < B) (hr : Row W g 51 [.int .i64 0, .string ⟨#[]⟩, .int .i64 0]) (hw : ∀ b, b ≠ g → W'.heap[b]? = W.heap[b]?) (hs : W.heap.size ≤ W'.heap.size) : TreeIs W' B T M1 M2 v ds ss where
  tree := h.tree.same fun b hb _ => hw b (by omega)
  hold := {
    len := h.hold.len
    items := fun i d s hd hs' => by
      obtain ⟨oi, ci, h1, h2⟩ := h.hold.items i d s hd hs'
      exact ⟨oi, ci, h1, h2.apart (fun j x hx => kind_pos hv hs' hx) hr hw hs⟩ }
  pars := h.pars
  items := by obtain ⟨n, hm⟩ := h.items; exact ⟨n, ownsMap_same hm (hw _ (by have := h.low1; omega))⟩
  mods := by obtain ⟨n, hm⟩ := h.mods; exact ⟨n, ownsMap_same hm (hw _ (by have := h.low2; omega))⟩
  low1 := h.low1
  low2 := h.low2
set_option maxRecDepth 100000 in
set_option maxHeartbeats 4000000 in
theorem declarationAt_any (ss : List Sc) (hF : Fair ss) (oa : Option Addr) (cap : Nat) (a b : Int) (ha : (Lit.int .i64 a).wf = true) (hb' : (Lit.int .i64 b).wf = true) (w : World) (hc : HoldsScopes w oa ss) (hE : DeclErrs w) :
    Calls Tryz.prog 21 #[.agg #[.slice oa ss.length cap], .agg #[.int .i64 a, .int .i64 b]] w (DeclGot ss a b w) := by
  have hb0 : Below w.heap.size w (((w.alloc (.cells #[.slice oa ss.length cap] 32)).alloc (.cells #[.int .i64 a, .int .i64 b] 34)).alloc (.cells #[.int .i64 0, .string ⟨#[]⟩, .int .i64 0] 51)) := (((Below.refl _ _).alloc (Nat.le_refl _) _).alloc (by simp) _).alloc (by simp; omega) _
  have C := Lib.hid (hF.tree oa cap _ (hc.below hb0 (Nat.le_refl _)) (hE.trees.below hb0 hE.trees.size))
  have HB0 := Lib.hid hb0
  have RP : Hid (Row (((w.alloc (.cells #[.slice oa ss.length cap] 32)).alloc (.cells #[.int .i64 a, .int .i64 b] 34)).alloc (.cells #[.int .i64 0, .string ⟨#[]⟩, .int .i64 0] 51)) (w.heap.size + 1) 34 [.int .i64 a, .int .i64 b]) := Lib.hid (by
    have := (Row.new (w.alloc (.cells #[.slice oa ss.length cap] 32)) [.int .i64 a, .int .i64 b] 34).alloc (.cells #[.int .i64 0, .string ⟨#[]⟩, .int .i64 0] 51)
    rw [World.size_alloc] at this
    exact this)
  have RR : Hid (Row (((w.alloc (.cells #[.slice oa ss.length cap] 32)).alloc (.cells #[.int .i64 a, .int .i64 b] 34)).alloc (.cells #[.int .i64 0, .string ⟨#[]⟩, .int .i64 0] 51)) (w.heap.size + 2) 51 [.int .i64 0, .string ⟨#[]⟩, .int .i64 0]) := Lib.hid (by
    have := Row.new ((w.alloc (.cells #[.slice oa ss.length cap] 32)).alloc (.cells #[.int .i64 a, .int .i64 b] 34)) [.int .i64 0, .string ⟨#[]⟩, .int .i64 0] 51
    simp only [World.size_alloc] at this
    exact this)
  have HWF := Lib.hid (And.intro ha hb')
  have HE0 := Lib.hid (hE.at hb0)
  clear hF hc hE hb0 ha hb'
  go_enter Tryz.func21, Tryz.ntmps21
  go_wp2_with fail
  refine C.out.mono ?_
  rintro e w1 (⟨hv, ⟨tp, p, rfl⟩, hb⟩ | ⟨hv, T, M1, M2, v, ds, rfl, hb, hT⟩)
  · have HB := Lib.hid (HB0.out.trans (hb.mono HB0.out.size))
    have RR1 := Lib.hid (RR.out.below hb RR.out.lt)
    have HN : Hid (¬ declAt ss a b) := Lib.hid (fun h => hv h.1)
    have r0 : w1.cell? ⟨w.heap.size + 1 + 1, 0, none⟩ = some (.int .i64 0) := RR1.out.cell (i := 0) (by rfl)
    have r1 : w1.cell? ⟨w.heap.size + 1 + 1, 1, none⟩ = some (.string ⟨#[]⟩) := RR1.out.cell (i := 1) (by rfl)
    have r2 : w1.cell? ⟨w.heap.size + 1 + 1, 2, none⟩ = some (.int .i64 0) := RR1.out.cell (i := 2) (by rfl)
    have f0 : ∀ k, w1.frozen? ⟨w.heap.size + 1 + 1, k, none⟩ = false := fun k => RR1.out.frozen k
    clear hv hb
    go_wp2
    refine bodyPost_ret (v := .tuple #[.pointer none, .agg #[.int .i64 0, .string ⟨#[]⟩, .int .i64 0], .iface tp p]) (by simp [results, Tryz.results21, go_sem, r0, r1, r2]) rfl (.inl ⟨HN.out, ⟨tp, p, rfl⟩, ?_⟩)
    exact ((HB.out.setCell (by simp; omega) _).setCell (by simp; omega) _).setCell (by simp; omega) _
  · have HB := Lib.hid (HB0.out.trans (hb.mono HB0.out.size))
    have RR1 := Lib.hid (RR.out.below hb RR.out.lt)
    have RP1 := Lib.hid (RP.out.below hb RP.out.lt)
    have hbA := ((Below.refl w1.heap.size w1).alloc (Nat.le_refl _) (.cells #[.int .i64 0, .string ⟨#[]⟩, .int .i64 0] 51)).drew
    have hrun := look_any hv (hT.below ((Below.refl _ _).drew)) HWF.out.1 HWF.out.2
    have hrun2 := look_any hv (hT.below hbA) HWF.out.1 HWF.out.2
    have T1 := hT.tree.box
    have t1 := T1.cell (i := 1) (by rfl)
    have t1' := (((Below.refl _ _).drew).cell (p := ⟨T, 1, none⟩) T1.lt).trans t1
    have t1A := (hbA.cell (p := ⟨T, 1, none⟩) T1.lt).trans t1
    have p0 := RP1.out.cell (i := 0) (by rfl)
    have p1 := RP1.out.cell (i := 1) (by rfl)
    have p0A := (hbA.cell (p := ⟨w.heap.size + 1, 0, none⟩) RP1.out.lt).trans p0
    have p1A := (hbA.cell (p := ⟨w.heap.size + 1, 1, none⟩) RP1.out.lt).trans p1
    have HV := Lib.hid hv
    have HT := Lib.hid hT
    have HE1 := Lib.hid ((HE0.out.at hb))
    have HBS := Lib.hid (HB0.out.size)
    clear hb hT hbA T1 hv
    generalize hq2 : (itemAtP ss a b).getD zeroIt = x at hrun hrun2
    have HQ := Lib.hid hq2
    clear hq2
    go_wp2
    go_cut [9] (fun s9 wx => ∃ g, s9 = .pointer (some ⟨g, 0, none⟩) ∧ w1.heap.size ≤ g ∧ Row wx g 51 [.int .i64 x.kind, .string x.name, .int .i64 x.scope] ∧ Below w1.heap.size w1 wx)
    case first =>
      go_region
      all_goals go_wp2
      all_goals go_meet
      all_goals exact ⟨_, rfl, Nat.le_refl _, Row.new w1 [.int .i64 x.kind, .string x.name, .int .i64 x.scope] 51, ((Below.refl _ _).alloc (Nat.le_refl _) _).drew⟩
    case rest =>
      obtain ⟨g, rfl, hg, hrow, hbc⟩ := hcut
      have HBC := Lib.hid (HB.out.trans (hbc.mono HB.out.size))
      have RR2 := Lib.hid (RR1.out.below hbc RR1.out.lt)
      have HT2 := Lib.hid (HT.out.below hbc)
      have HE2 := Lib.hid (HE1.out.at hbc)
      have k0 := hrow.cell (i := 0) (by rfl)
      have k1 := hrow.cell (i := 1) (by rfl)
      have k2 := hrow.cell (i := 2) (by rfl)
      have r0 : wc.cell? ⟨w.heap.size + 1 + 1, 0, none⟩ = some (.int .i64 0) := RR2.out.cell (i := 0) (by rfl)
      have r1 : wc.cell? ⟨w.heap.size + 1 + 1, 1, none⟩ = some (.string ⟨#[]⟩) := RR2.out.cell (i := 1) (by rfl)
      have r2 : wc.cell? ⟨w.heap.size + 1 + 1, 2, none⟩ = some (.int .i64 0) := RR2.out.cell (i := 2) (by rfl)
      have f0 : ∀ k, wc.frozen? ⟨w.heap.size + 1 + 1, k, none⟩ = false := fun k => RR2.out.frozen k
      clear hrun hrun2 t1 t1' t1A p0 p1 p0A p1A hbc
      by_cases hk : x.kind = 1
      · have hq1 : (x.kind != 1) = false := by simpa using hk
        have HX : Hid (itemAtP ss a b = some x) := Lib.hid (by
          cases h : itemAtP ss a b with
          | none =>
            have := HQ.out
            rw [h] at this
            subst this
            exact absurd hk (by decide)
          | some y =>
            have := HQ.out
            rw [h] at this
            subst this
            rfl)
        obtain ⟨i, j, rfl, rfl, hpl⟩ := item_placed HX.out
        have HPL := Lib.hid (And.intro hpl hk)
        have RS := ((RR2.out.set 0 (.int .i64 x.kind)).set 1 (.string x.name)).set 2 (.int .i64 x.scope)
        have d0 := cell_drew (RS.cell (i := 0) (v := .int .i64 x.kind) (by rfl))
        have d1 := cell_drew (RS.cell (i := 1) (v := .string x.name) (by rfl))
        have d2 := cell_drew (RS.cell (i := 2) (v := .int .i64 x.scope) (by rfl))
        have HTE := Lib.hid (HT2.out.apart HV.out (g := w.heap.size + 1 + 1) (by simp) RR2.out (fun b hb => heap_set3 wc (w.heap.size + 1 + 1) (.int .i64 x.kind) (.string x.name) (.int .i64 x.scope) hb) (by show wc.heap.size ≤ (((wc.setCell ⟨w.heap.size + 1 + 1, 0, none⟩ (.int .i64 x.kind)).setCell ⟨w.heap.size + 1 + 1, 1, none⟩ (.string x.name)).setCell ⟨w.heap.size + 1 + 1, 2, none⟩ (.int .i64 x.scope)).heap.size; simp))
        have HBE : Hid (Below w.heap.size w (((wc.setCell ⟨w.heap.size + 1 + 1, 0, none⟩ (.int .i64 x.kind)).setCell ⟨w.heap.size + 1 + 1, 1, none⟩ (.string x.name)).setCell ⟨w.heap.size + 1 + 1, 2, none⟩ (.int .i64 x.scope)).drew) := Lib.hid ((((HBC.out.setCell (by simp; omega) _).setCell (by simp; omega) _).setCell (by simp; omega) _).drew)
        clear hrow hpl hk RS
        go_wp2
        go_region
        all_goals go_wp2
        all_goals exact bodyPost_ret (v := .tuple #[.pointer (some ⟨T, 0, none⟩), .agg #[.int .i64 x.kind, .string x.name, .int .i64 x.scope], .nilIface]) (by simp [results, Tryz.results21, go_sem, d0, d1, d2]) rfl (.inr ⟨HV.out, i, j, x, T, M1, M2, _, v, ds, rfl, rfl, HX.out, HPL.out.2, HPL.out.1, rfl, HBE.out, HBS.out, HTE.out⟩)
      · have hq1 : (x.kind != 1) = true := by simpa using hk
        have HN : Hid (¬ declAt ss a b) := Lib.hid (by
          rintro ⟨_, y, hy, hyk⟩
          have := HQ.out
          rw [hy] at this
          subst this
          exact hk hyk)
        obtain ⟨tp, p, he⟩ := HE2.out.decl
        have RS := ((RR2.out.set 0 (.int .i64 0)).set 1 (.string ⟨#[]⟩)).set 2 (.int .i64 0)
        have d0 := cell_drew (RS.cell (i := 0) (v := .int .i64 0) (by rfl))
        have d1 := cell_drew (RS.cell (i := 1) (v := .string ⟨#[]⟩) (by rfl))
        have d2 := cell_drew (RS.cell (i := 2) (v := .int .i64 0) (by rfl))
        have HBE : Hid (Below w.heap.size w (((wc.setCell ⟨w.heap.size + 1 + 1, 0, none⟩ (.int .i64 0)).setCell ⟨w.heap.size + 1 + 1, 1, none⟩ (.string ⟨#[]⟩)).setCell ⟨w.heap.size + 1 + 1, 2, none⟩ (.int .i64 0)).drew) := Lib.hid ((((HBC.out.setCell (by simp; omega) _).setCell (by simp; omega) _).setCell (by simp; omega) _).drew)
        clear hrow hk RS
        go_wp2
        go_region
        all_goals go_wp2
        all_goals exact bodyPost_ret (v := .tuple #[.pointer none, .agg #[.int .i64 0, .string ⟨#[]⟩, .int .i64 0], .iface tp p]) (by simp [results, Tryz.results21, go_sem, d0, d1, d2]) rfl (.inl ⟨HN.out, ⟨tp, p, rfl⟩, HBE.out⟩)
end Go.Proofs.YtimcobenmgbciaaGreatDoor
