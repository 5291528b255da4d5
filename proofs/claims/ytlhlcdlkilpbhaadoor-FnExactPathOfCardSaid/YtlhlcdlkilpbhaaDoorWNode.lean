/-
  The walks of impl's (*tree).node and nodeOf. Conditions: the argument's memory holds the graph; the package-level errors hold errors.
-/
import Derived.Test.YtlhlcdlkilpbhaaDoorWOutward
import Derived.Test.YtlhlcdlkilpbhaaDoorWImplValid
namespace Go.Proofs.YtlhlcdlkilpbhaaDoor
open Go Go.RowKit Go.Maps
/-- The package-level errors of scopes hold errors. -/
structure NodeErrs (w : World) : Prop where
  trees : TreeErrs w
  scope : IsErr w 1
theorem NodeErrs.at {w w' : World} (h : NodeErrs w) (hb : Below w.heap.size w w') : NodeErrs w' where
  trees := h.trees.below hb h.trees.size
  scope := h.scope.below hb (Nat.lt_of_lt_of_le (by decide) h.trees.size)
theorem TreeIs.below {w w' : World} {B T M1 M2 : Nat} {v : Value} {ds : List Nd} {ss : List Sc} (h : TreeIs w B T M1 M2 v ds ss) (hb : Below w.heap.size w w') : TreeIs w' B T M1 M2 v ds ss where
  tree := h.tree.below hb (Nat.le_refl _)
  hold := h.hold.below hb (Nat.le_refl _)
  pars := h.pars
  items := by obtain ⟨n, h1⟩ := h.items; exact ⟨n, ownsMap_below h1 hb⟩
  mods := by obtain ⟨n, h1⟩ := h.mods; exact ⟨n, ownsMap_below h1 hb⟩
  low1 := h.low1
  low2 := h.low2
theorem TreeIs.lower {w : World} {B B' T M1 M2 : Nat} {v : Value} {ds : List Nd} {ss : List Sc} (h : TreeIs w B T M1 M2 v ds ss) (hB : B' ≤ B) : TreeIs w B' T M1 M2 v ds ss where
  tree := h.tree.lower hB
  hold := h.hold
  pars := h.pars
  items := h.items
  mods := h.mods
  low1 := Nat.le_trans hB h.low1
  low2 := Nat.le_trans hB h.low2
/-- What (*tree).node answers. -/
def NodeAt (ds : List Nd) (n : Int) (w : World) (e : Ending) (w' : World) : Prop :=
  (∃ (i : Nat) (d : Nd), n = (i : Int) ∧ ds[i]? = some d ∧ e = .returned (.tuple #[.pointer (some ⟨d.blk, 0, none⟩), .nilIface]) ∧ Below w.heap.size w w') ∨
  (¬ (0 ≤ n ∧ n < (ds.length : Int)) ∧ (∃ tp p, e = .returned (.tuple #[.pointer none, .iface tp p])) ∧ Below w.heap.size w w')
set_option maxRecDepth 100000 in
theorem node_any {w : World} {B T M1 M2 : Nat} {v : Value} {ds : List Nd} (h : Tree w B T M1 M2 v ds) (hne : ds ≠ []) (hE : IsErr w 1) (n : Int) :
    Calls Tryd.prog 69 #[.pointer (some ⟨T, 0, none⟩), .int .i64 n] w (NodeAt ds n w) := by
  obtain ⟨g, cap, rfl, hB, hg, hs⟩ := h.slot hne
  have b0 : w.cell? ⟨T, 0, none⟩ = some (.slice (some ⟨g, 0, none⟩) ds.length cap) := h.box.cell (by simp)
  obtain ⟨tp, p, he⟩ := hE
  by_cases h0 : n < 0
  · have k0 : decide (n < 0) = true := by simpa using h0
    have HN : Hid (¬ (0 ≤ n ∧ n < (ds.length : Int))) := Lib.hid (by omega)
    clear h hs
    go_enter Tryd.func69, Tryd.ntmps69
    go_wp2
    go_region
    all_goals go_wp2
    all_goals go_ret2
    all_goals exact .inr ⟨HN.out, ⟨tp, p, rfl⟩, (Below.refl _ _).drew⟩
  · obtain ⟨i, rfl⟩ : ∃ i : Nat, n = (i : Int) := ⟨n.toNat, by omega⟩
    have k0 : decide (((i : Nat) : Int) < 0) = false := by simp
    by_cases h1 : i < ds.length
    · obtain ⟨d, hd⟩ : ∃ d, ds[i]? = some d := ⟨_, List.getElem?_eq_getElem h1⟩
      have s1 := hs i d hd
      have k1 : decide (((ds.length : Nat) : Int) ≤ ((i : Nat) : Int)) = false := by simp; omega
      have HD := Lib.hid hd
      unfold Nd.ptr at s1
      clear h hs hd he
      go_enter Tryd.func69, Tryd.ntmps69
      go_wp2
      go_ret2
      exact .inl ⟨i, d, rfl, HD.out, rfl, Below.refl _ _⟩
    · have k1 : decide (((ds.length : Nat) : Int) ≤ ((i : Nat) : Int)) = true := by simp; omega
      have HN : Hid (¬ (0 ≤ (i : Int) ∧ (i : Int) < (ds.length : Int))) := Lib.hid (by omega)
      clear h hs
      go_enter Tryd.func69, Tryd.ntmps69
      go_wp2
      go_region
      all_goals go_wp2
      all_goals go_ret2
      all_goals exact .inr ⟨HN.out, ⟨tp, p, rfl⟩, (Below.refl _ _).drew⟩
/-- A valid graph and one of its scopes. -/
def HasScope (ss : List Sc) (n : Int) : Prop := Valid ss ∧ 0 ≤ n ∧ n < (ss.length : Int)
/-- What nodeOf answers. -/
def NodeGot (ss : List Sc) (n : Int) (w : World) (e : Ending) (w' : World) : Prop :=
  (¬ HasScope ss n ∧ (∃ tp p, e = .returned (.tuple #[.pointer none, .pointer none, .iface tp p])) ∧ Below w.heap.size w w') ∨
  (Valid ss ∧ ∃ (i : Nat) (d : Nd) (T M1 M2 : Nat) (v : Value) (ds : List Nd), n = (i : Int) ∧ i < ss.length ∧ ds[i]? = some d ∧ e = .returned (.tuple #[.pointer (some ⟨T, 0, none⟩), .pointer (some ⟨d.blk, 0, none⟩), .nilIface]) ∧ Below w.heap.size w w' ∧ TreeIs w' w.heap.size T M1 M2 v ds ss)
theorem TreeIs.ne {w : World} {B T M1 M2 : Nat} {v : Value} {ds : List Nd} {ss : List Sc} (h : TreeIs w B T M1 M2 v ds ss) (hv : Valid ss) : ds ≠ [] := fun e => by
  have h1 := h.hold.len
  have h2 := hv.count
  rw [e, List.length_nil] at h1
  omega
set_option maxRecDepth 100000 in
theorem nodeOf_any (ss : List Sc) (hF : Fair ss) (oa : Option Addr) (cap : Nat) (n : Int) (w : World) (hc : HoldsScopes w oa ss) (hE : NodeErrs w) :
    Calls Tryd.prog 66 #[.agg #[.slice oa ss.length cap], .int .i64 n] w (NodeGot ss n w) := by
  have hb0 := (Below.refl w.heap.size w).alloc (Nat.le_refl _) (.cells #[.slice oa ss.length cap] 34)
  have C := Lib.hid (hF.tree oa cap _ (hc.below hb0 (Nat.le_refl _)) (hE.at hb0).trees)
  have HB0 := Lib.hid hb0
  have HE := Lib.hid hE
  clear hF hc hE hb0
  go_enter Tryd.func66, Tryd.ntmps66
  go_wp2_with fail
  refine C.out.mono ?_
  rintro e w1 (⟨hv, ⟨tp, p, rfl⟩, hb⟩ | ⟨hv, T, M1, M2, v, ds, rfl, hb, hT⟩)
  · have HV : Hid (¬ HasScope ss n) := Lib.hid (fun h => hv h.1)
    have HB := Lib.hid (HB0.out.trans (hb.mono HB0.out.size))
    clear hv hb
    go_wp2
    go_ret3
    exact .inl ⟨HV.out, ⟨tp, p, rfl⟩, HB.out⟩
  · have HV := Lib.hid hv
    have HB := Lib.hid (HB0.out.trans (hb.mono HB0.out.size))
    have HT := Lib.hid hT
    have C2 := Lib.hid (node_any hT.tree (hT.ne hv) (HE.out.at HB.out).scope n)
    clear hv hb hT
    go_wp2_with fail
    refine C2.out.mono ?_
    rintro e w2 (⟨i, d, rfl, hd, rfl, hb2⟩ | ⟨hn, ⟨tp, p, rfl⟩, hb2⟩)
    · have HB2 := Lib.hid (HB.out.trans (hb2.mono HB.out.size))
      have HT2 := Lib.hid ((HT.out.below hb2).lower (show w.heap.size ≤ _ from by simp))
      have HD := Lib.hid hd
      have HI : Hid (i < ss.length) := Lib.hid (by have := (List.getElem?_eq_some_iff.1 hd).1; have := HT.out.hold.len; omega)
      clear hb2 hd
      go_wp2
      go_ret3
      exact .inr ⟨HV.out, i, d, T, M1, M2, v, ds, rfl, HI.out, HD.out, rfl, HB2.out, HT2.out⟩
    · have HB2 := Lib.hid (HB.out.trans (hb2.mono HB.out.size))
      have HN : Hid (¬ HasScope ss n) := Lib.hid (fun h => hn ⟨h.2.1, by rw [HT.out.hold.len]; exact h.2.2⟩)
      clear hb2 hn
      go_wp2
      go_ret3
      exact .inl ⟨HN.out, ⟨tp, p, rfl⟩, HB2.out⟩
end Go.Proofs.YtlhlcdlkilpbhaaDoor
