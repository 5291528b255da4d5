/-
  The walks of impl's endOf, adding, AddDeclaration and AddImport. Conditions: the argument's memory holds the graph; the package-level errors hold errors.
-/
import Derived.Test.YthoccmhgjcafnaaDoorJB
import Derived.Test.YthoccmhgjcafnaaDoorJD
namespace Go.Proofs.YthoccmhgjcafnaaDoor
open Go Go.RowKit
/-- A valid graph and one of its scopes, which has room. -/
def Room (ss : List Sc) (n : Int) : Prop := Valid ss ∧ ∃ (i : Nat) (c : Sc), n = (i : Int) ∧ ss[i]? = some c ∧ c.items.length < 5
/-- The package-level errors of places behind all items, of additions, hold errors. -/
structure EndErrs (w : World) : Prop where
  nodes : NodeErrs w
  full : IsErr w 1
theorem EndErrs.at {w w' : World} (h : EndErrs w) (hb : Below w.heap.size w w') : EndErrs w' where
  nodes := h.nodes.at hb
  full := h.full.below hb (Nat.lt_of_lt_of_le (by decide) h.nodes.trees.size)
structure AddErrs (w : World) : Prop where
  names : NameErrs w
  full : IsErr w 1
theorem AddErrs.ends {w : World} (h : AddErrs w) : EndErrs w := ⟨h.names.nodes, h.full⟩
theorem AddErrs.at {w w' : World} (h : AddErrs w) (hb : Below w.heap.size w w') : AddErrs w' where
  names := h.names.at hb
  full := h.full.below hb (Nat.lt_of_lt_of_le (by decide) h.names.nodes.trees.size)
/-- A store into one block leaves the cells of another. -/
theorem cell_far {w : World} {g T : Nat} (h : g ≠ T) (i : Nat) (v : Value) {o : Nat} : (w.setCell ⟨T, i, none⟩ v).cell? ⟨g, o, none⟩ = w.cell? ⟨g, o, none⟩ := by
  simp only [World.cell?]
  rw [Below.heap_setCell _ _ _ _ h]
/-- What endOf answers. -/
def EndGot (ss : List Sc) (n : Int) (w : World) (e : Ending) (w' : World) : Prop :=
  (¬ Room ss n ∧ (∃ tp p, e = .returned (.tuple #[.agg #[.int .i64 0, .int .i64 0], .iface tp p])) ∧ Below w.heap.size w w') ∨
  (∃ (i : Nat) (c : Sc), n = (i : Int) ∧ ss[i]? = some c ∧ c.items.length < 5 ∧ e = .returned (.tuple #[.agg #[.int .i64 (i : Int), .int .i64 (c.items.length : Int)], .nilIface]) ∧ Below w.heap.size w w')
set_option maxRecDepth 100000 in
set_option maxHeartbeats 1000000 in
theorem endOf_any {ss : List Sc} (hv : Valid ss) {w : World} {B T M1 M2 : Nat} {v : Value} {ds : List Nd} (hT : TreeIs w B T M1 M2 v ds ss) (hE : EndErrs w) (n : Int) :
    Calls Tryd.prog 32 #[.pointer (some ⟨T, 0, none⟩), .int .i64 n] w (EndGot ss n w) := by
  have hb0 := (Below.refl w.heap.size w).alloc (Nat.le_refl _) (.cells #[.int .i64 0, .int .i64 0] 44)
  have C := Lib.hid (node_any (hT.below hb0).tree (hT.ne hv) (hE.at hb0).nodes.scope n)
  have HB := Lib.hid hb0
  have HR := Lib.hid (Row.new w [.int .i64 0, .int .i64 0] 44)
  have HV := Lib.hid hv
  have HT := Lib.hid hT
  have HE := Lib.hid hE
  clear hv hT hE hb0
  go_enter Tryd.func32, Tryd.ntmps32
  go_wp2_with fail
  refine C.out.mono ?_
  rintro e w1 (⟨i, d, rfl, hd, rfl, hb1⟩ | ⟨hn, ⟨tp, p, rfl⟩, hb1⟩)
  · have hi : i < ss.length := by have := (List.getElem?_eq_some_iff.1 hd).1; have := HT.out.hold.len; omega
    obtain ⟨c, hc⟩ : ∃ c, ss[i]? = some c := ⟨_, List.getElem?_eq_getElem hi⟩
    have hil := scope_items (HV.out.scopes i c hc)
    have HB1 := Lib.hid (HB.out.trans (hb1.mono HB.out.size))
    have HR1 := Lib.hid (HR.out.below hb1 HR.out.lt)
    obtain ⟨oi, ci, hdi, hci⟩ := HT.out.hold.items i d c hd hc
    have nk := (HT.out.below HB1.out).tree.node i d hd
    have n2 := nk.2.cell (i := 2) (v := d.items) (by rfl)
    rw [hdi] at n2
    have n2' : w1.drew.cell? ⟨d.blk, 2, none⟩ = some (.slice oi c.items.length ci) := n2
    have n0 := HR1.out.cell (i := 0) (v := .int .i64 0) (by rfl)
    have n1 := HR1.out.cell (i := 1) (v := .int .i64 0) (by rfl)
    have f0 := HR1.out.frozen 0
    have f1 := HR1.out.frozen 1
    have HC := Lib.hid hc
    obtain ⟨tp, p, he⟩ := (HE.out.at HB1.out).full
    have hg6 : 1 ≠ w.heap.size := Nat.ne_of_lt (Nat.lt_of_lt_of_le (by decide) HE.out.nodes.trees.size)
    have he1 : (w1.setCell ⟨w.heap.size, 0, none⟩ (.int .i64 0)).cell? ⟨1, 0, none⟩ = some (.iface tp p) := (cell_far hg6 _ _).trans he
    have he2 : ((w1.setCell ⟨w.heap.size, 0, none⟩ (.int .i64 0)).setCell ⟨w.heap.size, 1, none⟩ (.int .i64 0)).cell? ⟨1, 0, none⟩ = some (.iface tp p) := (cell_far hg6 _ _).trans he1
    clear hg6
    clear hd hdi hci nk hb1 hc
    by_cases h5 : c.items.length = 5
    · have k5 : (((c.items.length : Nat) : Int) == 5) = true := by simp; omega
      have HN : Hid (¬ Room ss (i : Int)) := Lib.hid (by
        rintro ⟨_, i', c', h1, h2, h3⟩
        obtain rfl : i = i' := by omega
        rw [HC.out] at h2
        obtain rfl := Option.some.inj h2
        omega)
      clear h5
      go_wp2
      go_region
      all_goals go_wp2
      all_goals (
        have RT := (HR1.out.set 0 (.int .i64 0)).set 1 (.int .i64 0)
        have d0 := RT.cell (i := 0) (v := .int .i64 0) (by rfl)
        have d1 := RT.cell (i := 1) (v := .int .i64 0) (by rfl)
        refine bodyPost_ret (v := .tuple #[.agg #[.int .i64 0, .int .i64 0], .iface tp p]) ?_ rfl (.inl ⟨HN.out, ⟨tp, p, rfl⟩, ?_⟩)
        · first | (simp [results, Tryd.results32, go_sem, d0, d1]; done) | (simp [results, Tryd.results32, go_sem]; done)
        · first | exact (HB1.out.drew.setCell (by simp) _).setCell (by simp) _ | exact ((HB1.out.setCell (by simp) _).setCell (by simp) _).drew)
    · have k5 : (((c.items.length : Nat) : Int) == 5) = false := by simp; omega
      have h6 : c.items.length < 5 := by omega
      clear h5
      go_wp2
      have RT := (HR1.out.set 0 (.int .i64 (i : Int))).set 1 (.int .i64 (c.items.length : Int))
      have d0 := RT.cell (i := 0) (v := .int .i64 (i : Int)) (by rfl)
      have d1 := RT.cell (i := 1) (v := .int .i64 (c.items.length : Int)) (by rfl)
      refine bodyPost_ret (v := .tuple #[.agg #[.int .i64 (i : Int), .int .i64 (c.items.length : Int)], .nilIface]) (by simp [results, Tryd.results32, go_sem, d0, d1]) rfl (.inr ⟨i, c, rfl, HC.out, h6, rfl, ?_⟩)
      exact (HB1.out.setCell (by simp) _).setCell (by simp) _
  · have HB1 := Lib.hid (HB.out.trans (hb1.mono HB.out.size))
    have HR1 := Lib.hid (HR.out.below hb1 HR.out.lt)
    have n0 := HR1.out.cell (i := 0) (v := .int .i64 0) (by rfl)
    have n1 := HR1.out.cell (i := 1) (v := .int .i64 0) (by rfl)
    have f0 := HR1.out.frozen 0
    have f1 := HR1.out.frozen 1
    have HN : Hid (¬ Room ss n) := Lib.hid (by
      rintro ⟨_, i', c', h1, h2, h3⟩
      have h4 := (List.getElem?_eq_some_iff.1 h2).1
      have h5 := HT.out.hold.len
      exact hn (by omega))
    clear hn hb1
    go_wp2
    have RT := (HR1.out.set 0 (.int .i64 0)).set 1 (.int .i64 0)
    have d0 := RT.cell (i := 0) (v := .int .i64 0) (by rfl)
    have d1 := RT.cell (i := 1) (v := .int .i64 0) (by rfl)
    refine bodyPost_ret (v := .tuple #[.agg #[.int .i64 0, .int .i64 0], .iface tp p]) (by simp [results, Tryd.results32, go_sem, d0, d1]) rfl (.inl ⟨HN.out, ⟨tp, p, rfl⟩, ?_⟩)
    exact (HB1.out.setCell (by simp) _).setCell (by simp) _
end Go.Proofs.YthoccmhgjcafnaaDoor
