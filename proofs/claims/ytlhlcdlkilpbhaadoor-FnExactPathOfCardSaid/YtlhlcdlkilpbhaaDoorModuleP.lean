/-
  The module of a scope: what a tree's map of modules says of it, and the first declaration of a graph with that scope. Plain facts.
-/
import Derived.Test.YtlhlcdlkilpbhaaDoorWSpecPls
namespace Go.Proofs.YtlhlcdlkilpbhaaDoor
open Go Go.RowKit Go.Maps
theorem item_of {ss : List Sc} (hv : Valid ss) {q : Nat × Nat × It} (hq : q ∈ placed 0 ss) : itemB q.2.2 = true := by
  have h1 : (q.1, q.2.2) ∈ flat 0 ss := by rw [← placed_flat]; exact List.mem_map.2 ⟨q, hq, rfl⟩
  exact (hv.items.1 _ h1).1
theorem kind_of_mod {x : It} (h : itemB x = true) (hs : x.scope ≠ -1) : x.kind = 1 := by
  unfold itemB at h
  simp only [Bool.and_eq_true, Bool.or_eq_true, beq_iff_eq] at h
  rcases h.2 with h1 | h1
  · exact absurd h1 hs
  · exact h1
theorem moduleP_some {ss : List Sc} {m : Int} {q : Nat × Nat × It} (h : moduleP ss m = some q) : q ∈ placed 0 ss ∧ q.2.2.kind = 1 ∧ q.2.2.scope = m := by
  unfold moduleP at h
  have h1 := List.mem_of_find?_eq_some h
  have h2 := List.find?_some h
  simp only [Bool.and_eq_true, beq_iff_eq] at h2
  exact ⟨h1, h2.1, h2.2⟩
theorem moduleP_none {ss : List Sc} (hv : Valid ss) {m : Int} (h0 : 0 ≤ m) (h : moduleP ss m = none) : ∀ q ∈ placed 0 ss, q.2.2.scope ≠ m := by
  unfold moduleP at h
  intro q hq hs
  have h1 := List.find?_eq_none.1 h q hq
  have h2 := kind_of_mod (item_of hv hq) (by rw [hs]; omega)
  simp [h2, hs] at h1
theorem modsD_none {ss : List Sc} (hv : Valid ss) {m : Int} (h0 : 0 ≤ m) (h : moduleP ss m = none) (z : DataW Unit) : Maps.has (modsD (placed 0 ss)) (.int .i64 m) = false ∧ (modsD (placed 0 ss)).atKey (.int .i64 m) z = z := by
  have hn := moduleP_none hv h0 h
  constructor
  · cases e : Maps.has (modsD (placed 0 ss)) (.int .i64 m) with
    | false => rfl
    | true =>
      exfalso
      obtain ⟨q, hq, _, hs⟩ := modsP_mem.1 ((modsD_has _ m).1 e)
      exact hn q hq hs
  · unfold modsD
    rw [putInto_other modKey modVal _ z _ (.map []) (fun q hq he => hn q (List.mem_filter.1 hq).1 (by simpa [modKey] using he))]
    rfl
theorem modsD_some {ss : List Sc} (hv : Valid ss) {m : Int} (h0 : 0 ≤ m) {q : Nat × Nat × It} (h : moduleP ss m = some q) (z : DataW Unit) : Maps.has (modsD (placed 0 ss)) (.int .i64 m) = true ∧ (modsD (placed 0 ss)).atKey (.int .i64 m) z = placeD (q.1 : Int) (q.2.1 : Int) := by
  obtain ⟨hq, hk, hs⟩ := moduleP_some h
  have hne : q.2.2.scope ≠ -1 := by omega
  constructor
  · exact (modsD_has _ m).2 (modsP_mem.2 ⟨q, hq, by simpa [isMod] using hne, hs⟩)
  · have := modsD_at hv hq hne z
    rw [hs] at this
    exact this
/-- The place of a scope's module and whether it has one. -/
def modR (ss : List Sc) (m a b : Int) (ok : Bool) : Prop := (moduleP ss m = none ∧ a = 0 ∧ b = 0 ∧ ok = false) ∨ ∃ q, moduleP ss m = some q ∧ a = (q.1 : Int) ∧ b = (q.2.1 : Int) ∧ ok = true
theorem modR.same {ss : List Sc} {m a b c d : Int} {ok ok' : Bool} (h : modR ss m a b ok) (k : modR ss m c d ok') : a = c ∧ b = d ∧ ok = ok' := by
  rcases h with ⟨h1, rfl, rfl, rfl⟩ | ⟨q, h1, rfl, rfl, rfl⟩ <;> rcases k with ⟨k1, rfl, rfl, rfl⟩ | ⟨q', k1, rfl, rfl, rfl⟩
  · exact ⟨rfl, rfl, rfl⟩
  · rw [h1] at k1; cases k1
  · rw [h1] at k1; cases k1
  · rw [h1] at k1; cases k1; exact ⟨rfl, rfl, rfl⟩
theorem modR_total (ss : List Sc) (m : Int) : ∃ a b ok, modR ss m a b ok := by
  cases h : moduleP ss m with
  | none => exact ⟨0, 0, false, .inl ⟨h, rfl, rfl, rfl⟩⟩
  | some q => exact ⟨_, _, true, .inr ⟨q, h, rfl, rfl, rfl⟩⟩
/-- The look-up in the tree's map of modules, in any world behind. -/
theorem look_mod {ss : List Sc} (hv : Valid ss) {w : World} {B T M1 M2 : Nat} {v : Value} {ds : List Nd} (hT : TreeIs w B T M1 M2 v ds ss) {m a b : Int} {ok : Bool} (h0 : 0 ≤ m) (hw : (Lit.int .i64 m).wf = true) (hR : modR ss m a b ok)
    {W : World} (hb : Below w.heap.size w W) : (Instr.lookup 75 (.map (some M2)) (.int .i64 m) true).run Tryd.prog W = .ok (.tuple #[.agg #[.int .i64 a, .int .i64 b], .bool ok]) W := by
  obtain ⟨n, hm⟩ := hT.mods
  have hkey := keyOf_int_mk (P := Tryd.prog) (k := 3) (q := .i64) Tryd.underlying3 hw
  obtain ⟨v', ps, hrun, hv'⟩ := (ownsMap_below hm hb).look_ok (t := 75) (e := 36) scopeLaw Tryd.underlying75 (zeroPlace _) (placeR_mk 0 0) hkey
  obtain ⟨c, d, rfl⟩ := placeR_inv hv'
  rw [placeR_mk] at hv'
  simp only [Option.some.injEq, Prod.mk.injEq] at hv'
  have h1 := hv'.1
  rcases hR with ⟨e1, rfl, rfl, rfl⟩ | ⟨q, e1, rfl, rfl, rfl⟩
  · obtain ⟨k1, k2⟩ := modsD_none hv h0 e1 (placeD 0 0)
    rw [k1] at hrun
    rw [k2] at h1
    simp [placeD] at h1
    rw [h1.1, h1.2] at hrun
    exact hrun
  · obtain ⟨k1, k2⟩ := modsD_some hv h0 e1 (placeD 0 0)
    rw [k1] at hrun
    rw [k2] at h1
    simp [placeD] at h1
    rw [h1.1, h1.2] at hrun
    exact hrun
/-- The declarations of a graph in order; the first with a scope is its module. -/
def declsP (ss : List Sc) : List (Nat × Nat × It) := (placed 0 ss).filter fun q => q.2.2.kind == 1
theorem declsP_pls (ss : List Sc) : plsP ss 1 = (declsP ss).map fun q => ((q.1 : Int), (q.2.1 : Int)) := rfl
theorem moduleP_decls (ss : List Sc) (m : Int) : moduleP ss m = (declsP ss).find? fun q => q.2.2.scope == m := by
  unfold moduleP declsP
  rw [List.find?_filter]
  congr 1
  funext q
  cases h1 : (q.2.2.kind == 1) <;> cases h2 : (q.2.2.scope == m) <;> simp_all
end Go.Proofs.YtlhlcdlkilpbhaaDoor
