/-
  The walks of ModuleOf, the given one and impl's. Conditions: the argument's memory holds the graph; the package-level errors hold errors.
-/
import Derived.Test.YtoijapbffhkbbaaDoorLookP
import Derived.Test.YtoijapbffhkbbaaDoorWItemAt
import Derived.Test.YtoijapbffhkbbaaDoorWNode
namespace Go.Proofs.YtoijapbffhkbbaaDoor
open Go Go.RowKit Go.Maps
theorem find_atG {α : Type} {l : List α} {p : α → Bool} {k : Nat} {x : α} (hx : l[k]? = some x) (hp : p x = true) (hn : ∀ m, m ∈ l.take k → p m = false) : l.find? p = some x := by
  have hk := (List.getElem?_eq_some_iff.1 hx).1
  have e : l = l.take k ++ x :: l.drop (k + 1) := by
    have h1 := List.drop_eq_getElem_cons hk
    rw [(List.getElem?_eq_some_iff.1 hx).2] at h1
    rw [← h1, List.take_append_drop]
  rw [e, List.find?_append, List.find?_cons_of_pos hp, List.find?_eq_none.2 (fun m hm => by simp [hn m hm])]
  rfl
theorem field_kind (k s : Int) (nm : ByteArray) (w : World) : (Instr.field 57 (.agg #[.int .i64 k, .string nm, .int .i64 s]) 0).run Tryd.prog w = .ok (.int .i64 k) w := by kernel_rfl
theorem field_name (k s : Int) (nm : ByteArray) (w : World) : (Instr.field 57 (.agg #[.int .i64 k, .string nm, .int .i64 s]) 1).run Tryd.prog w = .ok (.string nm) w := by kernel_rfl
theorem field_scope (k s : Int) (nm : ByteArray) (w : World) : (Instr.field 57 (.agg #[.int .i64 k, .string nm, .int .i64 s]) 2).run Tryd.prog w = .ok (.int .i64 s) w := by kernel_rfl
attribute [local go_sem ↓] field_kind field_name field_scope
/-- What ModuleOf answers. -/
def moduleR (ss : List Sc) (n a b : Int) (ok : Bool) : Prop := (¬ HasScope ss n ∧ a = 0 ∧ b = 0 ∧ ok = false) ∨ (HasScope ss n ∧ modR ss n a b ok)
theorem moduleR.same {ss : List Sc} {n a b c d : Int} {ok ok' : Bool} (h : moduleR ss n a b ok) (k : moduleR ss n c d ok') : a = c ∧ b = d ∧ ok = ok' := by
  rcases h with ⟨h1, rfl, rfl, rfl⟩ | ⟨h1, h2⟩ <;> rcases k with ⟨k1, rfl, rfl, rfl⟩ | ⟨k1, k2⟩
  · exact ⟨rfl, rfl, rfl⟩
  · exact absurd k1 h1
  · exact absurd h1 k1
  · exact h2.same k2
def plV (a b : Int) : Value := .agg #[.int .i64 a, .int .i64 b]
/-- What ModuleOf leaves. -/
def ModuleGot (ss : List Sc) (n : Int) (w : World) (e : Ending) (w' : World) : Prop := ∃ a b ok, e = .returned (.tuple #[.agg #[.int .i64 a, .int .i64 b], .bool ok]) ∧ moduleR ss n a b ok ∧ Below w.heap.size w w'
set_option maxRecDepth 100000 in
set_option maxHeartbeats 1600000 in
theorem implModule_any (ss : List Sc) (hF : Fair ss) (oa : Option Addr) (cap : Nat) (n : Int) (w : World) (hc : HoldsScopes w oa ss) (hE : NodeErrs w) :
    Calls Tryd.prog 43 #[.agg #[.slice oa ss.length cap], .int .i64 n] w (ModuleGot ss n w) := by
  have hb0 := ((Below.refl w.heap.size w).alloc (Nat.le_refl _) (.cells #[.slice oa ss.length cap] 30)).alloc (by simp) (.cells #[.int .i64 0, .int .i64 0] 43)
  have C := Lib.hid (nodeOf_any ss hF oa cap n _ (hc.below hb0 (Nat.le_refl _)) (hE.at hb0))
  have hRR := Row.new (w.alloc (.cells #[.slice oa ss.length cap] 30)) [.int .i64 0, .int .i64 0] 43
  rw [World.size_alloc] at hRR
  have RR := Lib.hid hRR
  have HB0 := Lib.hid hb0
  clear hF hc hE hb0 hRR
  go_enter Tryd.func43, Tryd.ntmps43
  go_wp2_with fail
  refine C.out.mono ?_
  rintro e w1 (⟨hv, ⟨tp, p, rfl⟩, hb⟩ | ⟨hv, s, d, T, M1, M2, v, ds, rfl, hs, hd, rfl, hb, hT⟩)
  · have HN := Lib.hid hv
    have HB := Lib.hid (HB0.out.trans (hb.mono HB0.out.size))
    have RR1 := Lib.hid (RR.out.below hb RR.out.lt)
    have r0 := RR1.out.cell (i := 0) (by rfl)
    have r1 := RR1.out.cell (i := 1) (by rfl)
    have f0 : ∀ k, w1.frozen? ⟨w.heap.size + 1, k, none⟩ = false := fun k => RR1.out.frozen k
    clear hv hb
    go_wp2
    refine bodyPost_ret (v := .tuple #[.agg #[.int .i64 0, .int .i64 0], .bool false]) (by simp [results, Tryd.results43, go_sem, r0, r1]) rfl ⟨0, 0, false, rfl, .inl ⟨HN.out, rfl, rfl, rfl⟩, ?_⟩
    exact (HB.out.setCell (by simp) _).setCell (by simp) _
  · have HH : Hid (HasScope ss (s : Int)) := Lib.hid ⟨hv, by omega, by omega⟩
    have HB := Lib.hid (HB0.out.trans (hb.mono HB0.out.size))
    have RR1 := Lib.hid (RR.out.below hb RR.out.lt)
    obtain ⟨a, b, ok, hR⟩ := modR_total ss (s : Int)
    have hrun := look_mod hv hT (by omega) (wf_small (by have := hv.count; omega)) hR (Below.refl _ _)
    have t2 := hT.tree.box.cell (i := 2) (by rfl)
    have r0 := RR1.out.cell (i := 0) (by rfl)
    have r1 := RR1.out.cell (i := 1) (by rfl)
    have f0 : ∀ k, w1.frozen? ⟨w.heap.size + 1, k, none⟩ = false := fun k => RR1.out.frozen k
    have hlt := RR1.out.lt
    have HR := Lib.hid hR
    clear hv hb hT hd hs hR
    go_wp2
    have q1 := ((RR1.out.set 0 (.int .i64 a)).set 1 (.int .i64 b)).alloc (.cells #[.int .i64 a, .int .i64 b] 43)
    have q10 := q1.cell (i := 0) (by rfl)
    have q11 := q1.cell (i := 1) (by rfl)
    refine bodyPost_ret (v := .tuple #[.agg #[.int .i64 a, .int .i64 b], .bool ok]) (by simp [results, Tryd.results43, go_sem, q10, q11]) rfl ⟨a, b, ok, rfl, .inr ⟨HH.out, HR.out⟩, ?_⟩
    exact ((HB.out.setCell (by simp) _).setCell (by simp) _).alloc (by simp; exact HB.out.size) _
end Go.Proofs.YtoijapbffhkbbaaDoor
