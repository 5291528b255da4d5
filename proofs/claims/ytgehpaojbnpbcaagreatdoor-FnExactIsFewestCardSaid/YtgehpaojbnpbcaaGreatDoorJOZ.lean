/-
  The walks of impl's (*resolution).users and UsersOf. Conditions: the argument's memory holds the graph; the package-level errors hold errors. The walk of impl's (*resolution).bindings: the table of which declaration each item means alone. Condition: the resolution lies in memory. The walks of impl's (*bindingTable).has, (*bindingTable).renaming with its closure, and isNaming. Conditions: the table lies in memory; the names are as many as the table tells. The walks of impl's isNaming, (*bindingTable).renaming, withNames and NamedGraph. Conditions: the argument's memory holds the graph; the package-level errors hold errors. Two tables compared as arrays. Plain facts of the program's types.
-/
import Derived.Test.YtgehpaojbnpbcaaGreatDoorJTZ
import Derived.Test.YtgehpaojbnpbcaaGreatDoorJEZ
import Derived.Test.YtgehpaojbnpbcaaGreatDoorMeanDZ
import Derived.Test.YtgehpaojbnpbcaaGreatDoorJFZ
import Derived.Test.YtgehpaojbnpbcaaGreatDoorWTablZ
import Derived.Test.YtgehpaojbnpbcaaGreatDoorWPlsTZ
import Derived.Test.YtgehpaojbnpbcaaGreatDoorPSetZ
import Derived.BigQuiet
import Derived.Test.YtgehpaojbnpbcaaGreatDoorJGZ
import Derived.Laws.StructEq
namespace Go.Proofs.YtgehpaojbnpbcaaGreatDoor
open Go Go.RowKit Go.Maps
attribute [local go_sem] Oper.semAt_some
theorem below_grown1' {w w' : World} {B : Nat} {row : Option Nat} (h : w.grownBy w' row) (hB : B ≤ w.heap.size) (hr : ∀ r, row = some r → B ≤ r) : Below B w w' := (Below.refl B w).grown h hB hr
-- END1
end Go.Proofs.YtgehpaojbnpbcaaGreatDoor
namespace Go.Proofs.YtgehpaojbnpbcaaGreatDoor
open Go Go.RowKit Go.Maps
attribute [local go_sem] Oper.semAt_some
/-- The cells of a table of numbers: place (i, j) in cell i * 5 + j. -/
def tblL (f : Nat → Int) : List Value := (List.range 30).map fun k => .int .i64 (f k)
theorem tblL_length (f : Nat → Int) : (tblL f).length = 30 := by simp [tblL]
theorem tblL_get (f : Nat → Int) {k : Nat} (hk : k < 30) : (tblL f)[k]? = some (.int .i64 (f k)) := by
  unfold tblL
  rw [List.getElem?_map, List.getElem?_range hk]
  rfl
theorem tblL_congr {f g : Nat → Int} (h : ∀ k, k < 30 → f k = g k) : tblL f = tblL g := by
  unfold tblL
  exact List.map_congr_left fun k hk => by rw [h k (List.mem_range.1 hk)]
theorem tblL_set (f : Nat → Int) (k : Nat) (x : Int) : (tblL f).set k (.int .i64 x) = tblL fun i => if i = k then x else f i := by
  apply List.ext_getElem?
  intro i
  rw [List.getElem?_set]
  by_cases hi : i < 30
  · rw [tblL_get _ hi, tblL_get _ hi, tblL_length]
    by_cases hk : k = i
    · subst hk
      simp [hi]
    · rw [if_neg hk, if_neg (fun e => hk e.symm)]
  · have h1 : (tblL f)[i]? = none := List.getElem?_eq_none (by rw [tblL_length]; omega)
    have h2 : (tblL fun i => if i = k then x else f i)[i]? = none := List.getElem?_eq_none (by rw [tblL_length]; omega)
    rw [h1, h2, tblL_length]
    by_cases hk : k = i
    · rw [if_pos hk, if_neg (by omega)]
    · rw [if_neg hk]
theorem tblL_one (f : Nat → Int) : (tblL f).toArray.all (·.oneCell') = true := by
  have h : ∀ v ∈ tblL f, v.oneCell' = true := by
    intro v hv
    unfold tblL at hv
    obtain ⟨k, _, rfl⟩ := List.mem_map.1 hv
    rfl
  rw [Array.all_eq_true]
  intro i hi
  have h1 := h _ (List.getElem_mem (l := tblL f) (n := i) (by simpa using hi))
  simpa using h1
theorem tblL_info (f : Nat → Int) : (Tryz.prog.info? 79).map (·.size) = some (tblL f).toArray.size := by
  rw [List.size_toArray, tblL_length]
  kernel_rfl
def tabF (ss : List Sc) (k : Nat) : Int := tabT ss (k / 5) (k % 5)
/-- What the map of numbers tells: the places of a list, counted from 1 on. -/
structure NumIs (D : DataW Unit) (dl : List (Int × Int)) : Prop where
  has : ∀ a b, (Lit.int .i64 a).wf = true → (Lit.int .i64 b).wf = true → (Maps.has D (plLit a b) = true ↔ (a, b) ∈ dl)
  look : ∀ (k : Nat) (p : Int × Int), dl[k]? = some p → ∀ z, D.atKey (plLit p.1 p.2) z = .lit (.int .i64 ((k : Int) + 1))
  size : Maps.size D = dl.length
  small : ∀ p ∈ dl, (Lit.int .i64 p.1).wf = true ∧ (Lit.int .i64 p.2).wf = true
def NumW (w : World) (M n : Nat) (dl : List (Int × Int)) : Prop := ∃ D : DataW Unit, w.ownsMap Tryz.prog 59 (plainElem Tryz.prog 3) M n D ∧ NumIs D dl
theorem NumW.lt {w : World} {M n : Nat} {dl : List (Int × Int)} (h : NumW w M n dl) : M < w.heap.size := by
  obtain ⟨D, h1, _⟩ := h
  exact h1.lt
theorem NumW.same {w w' : World} {M n : Nat} {dl : List (Int × Int)} (h : NumW w M n dl) (hs : w'.heap[M]? = w.heap[M]?) : NumW w' M n dl := by
  obtain ⟨D, h1, h2⟩ := h
  exact ⟨D, ownsMap_same h1 hs, h2⟩
theorem num_nil {w : World} {M : Nat} (h : w.ownsMap (H := Unit) Tryz.prog 59 (plainElem Tryz.prog 3) M 0 (.map [])) : NumW w M 0 [] :=
  ⟨.map [], h, fun a b _ _ => by rw [has_nil]; simp, fun k p hk => by simp at hk, rfl, fun p hp => by cases hp⟩
theorem num_put {w : World} {M n : Nat} {D : DataW Unit} (h1 : w.ownsMap Tryz.prog 59 (plainElem Tryz.prog 3) M n D) (hn : n < 100000) {a b : Int} (ha : (Lit.int .i64 a).wf = true) (hb : (Lit.int .i64 b).wf = true) :
    (∀ ty, (Builtin.len_ #[162] ty #[.map (some M)]).run Tryz.prog w = .ok (.int .i64 (Maps.size D : Int)) w) ∧ Maps.size D ≤ n ∧ ∃ w', (Instr.mapUpdate 162 (.map (some M)) (.agg #[.int .i64 a, .int .i64 b]) (.int .i64 ((Maps.size D : Int) + 1))).run Tryz.prog w = .ok () w' ∧ w'.ownsMap Tryz.prog 59 (plainElem Tryz.prog 3) M (n + 1) (D.put (plLit a b) (.lit (.int .i64 ((Maps.size D : Int) + 1)))) ∧ w.grownBy w' (some M) := by
  have hle := h1.size_le
  exact ⟨fun ty => h1.len (t := 162) (e := 3) Tryz.underlying162 ty, hle, h1.update (t := 162) (e := 3) placeLaw Tryz.underlying162 (by unfold maxLen; omega) (pl_key ha hb) (plainElem_int (H := Unit) Tryz.underlying3 (a := (Maps.size D : Int) + 1) (WalkArith.wf_i64 (by omega)))⟩
theorem NumIs.put {w : World} {M n : Nat} {D : DataW Unit} {dl : List (Int × Int)} (h1 : w.ownsMap Tryz.prog 59 (plainElem Tryz.prog 3) M n D) (h2 : NumIs D dl) {a b : Int} (ha : (Lit.int .i64 a).wf = true) (hb : (Lit.int .i64 b).wf = true) (hnew : (a, b) ∉ dl) :
    NumIs (D.put (plLit a b) (.lit (.int .i64 ((Maps.size D : Int) + 1)))) (dl ++ [(a, b)]) := by
  have hkey : ∀ c d, (Lit.int .i64 c).wf = true → (Lit.int .i64 d).wf = true → (c, d) ≠ (a, b) → plLit c d ≠ plLit a b := fun c d hc hd hne e => by
    obtain ⟨e1, e2⟩ := plLit_inj hc hd ha hb e
    exact hne (by rw [e1, e2])
  refine ⟨fun c d hc hd => ?_, fun k p hk z => ?_, ?_, fun p hp => ?_⟩
  · by_cases he : (c, d) = (a, b)
    · cases he
      rw [Maps.has_put_same h1.isMap (plLit_is _ _)]
      simp
    · rw [Maps.has_put_other (hkey c d hc hd he), h2.has c d hc hd]
      simp [he]
  · by_cases hlt : k < dl.length
    · rw [List.getElem?_append_left hlt] at hk
      have hm := List.mem_of_getElem? hk
      have hw := h2.small _ hm
      have hne : p ≠ (a, b) := fun e => hnew (e ▸ hm)
      rw [Maps.atKey_put_other (hkey p.1 p.2 hw.1 hw.2 hne)]
      exact h2.look k p hk z
    · obtain rfl : k = dl.length := by
        have := (List.getElem?_eq_some_iff.1 hk).1
        simp at this
        omega
      rw [List.getElem?_append_right (Nat.le_refl _), Nat.sub_self] at hk
      cases hk
      rw [h2.size]
      exact Maps.atKey_put_same h1.isMap (plLit_is _ _) _ _
  · rw [Maps.size_put (h1.tidy placeLaw), if_neg (fun e => hnew ((h2.has a b ha hb).1 e)), h2.size, List.length_append, List.length_singleton]
  · rcases List.mem_append.1 hp with h | h
    · exact h2.small p h
    · rw [List.mem_singleton] at h
      subst h
      exact ⟨ha, hb⟩
theorem num_look {w : World} {M n : Nat} {dl : List (Int × Int)} (h : NumW w M n dl) {k : Nat} {a b : Int} (hk : dl[k]? = some (a, b)) :
    (Instr.lookup 162 (.map (some M)) (.agg #[.int .i64 a, .int .i64 b]) false).run Tryz.prog w = .ok (.int .i64 ((k : Int) + 1)) w := by
  obtain ⟨D, h1, h2⟩ := h
  have hw := h2.small _ (List.mem_of_getElem? hk)
  obtain ⟨c, hrun, hat, -⟩ := h1.lookup_int (t := 162) (e := 3) (q := .i64) placeLaw Tryz.underlying162 Tryz.underlying3 (by kernel_rfl) (pl_key hw.1 hw.2)
  have h3 := h2.look k (a, b) hk (.lit (.int .i64 0))
  rw [hat] at h3
  simp only [DataW.lit.injEq, Lit.int.injEq, true_and] at h3
  rw [h3] at hrun
  exact hrun
theorem cells_num {w w' : World} {M n : Nat} {D : DataW Unit} (h : w.ownsMap Tryz.prog 59 (plainElem Tryz.prog 3) M n D) (hg : w.grownBy w' (some M)) : CellsKept w.heap.size w w' := by
  obtain ⟨es, clock, h1, _⟩ := h
  exact ⟨hg.size, fun g vs t fr _ hh => by
    refine (hg.block g (Array.getElem?_eq_some_iff.1 hh).1 (fun e => ?_)).trans hh
    cases e
    rw [h1] at hh; cases hh⟩
/-- What holds of the map of numbers in the first loop: it tells the places of a list, where p. -/
def NumRun (w W0 : World) (M m : Nat) (p : Prop) (dl : List (Int × Int)) (W : World) : Prop := Below w.heap.size w W ∧ CellsKept W0.heap.size W0 W ∧ ∃ (n : Nat) (D : DataW Unit), n ≤ m ∧ W.ownsMap Tryz.prog 59 (plainElem Tryz.prog 3) M n D ∧ (p → NumIs D dl)
/-- The table while some items are left. -/
def tabLeft (ss : List Sc) (left : Lit → Bool) (k : Nat) : Int := if left (plLit ((k / 5 : Nat) : Int) ((k % 5 : Nat) : Int)) = true then 0 else tabF ss k
theorem tabLeft_step {ss : List Sc} {left : Lit → Bool} {i j : Nat} (hi : i < 6) (hj : j < 5) : tblL (tabLeft ss fun z => left z && !z.sameKey (plLit (i : Int) (j : Int))) = (tblL (tabLeft ss left)).set (i * 5 + j) (.int .i64 (tabT ss i j)) := by
  rw [tblL_set]
  refine tblL_congr fun k hk => ?_
  unfold tabLeft
  by_cases h : k = i * 5 + j
  · subst h
    have e1 : (i * 5 + j) / 5 = i := by omega
    have e2 : (i * 5 + j) % 5 = j := by omega
    have hz : (left (plLit (i : Int) (j : Int)) && !(plLit (i : Int) (j : Int)).sameKey (plLit (i : Int) (j : Int))) = false := by rw [WideAt.sameKey_self (plLit_is _ _)]; simp
    rw [e1, e2, if_pos rfl]
    dsimp only
    simp only [hz, Bool.false_eq_true, if_false]
    unfold tabF
    rw [e1, e2]
  · rw [if_neg h]
    have h1 : (plLit ((k / 5 : Nat) : Int) ((k % 5 : Nat) : Int)).sameKey (plLit (i : Int) (j : Int)) = false := by
      cases hs : (plLit ((k / 5 : Nat) : Int) ((k % 5 : Nat) : Int)).sameKey (plLit (i : Int) (j : Int)) with
      | false => rfl
      | true =>
        exfalso
        obtain ⟨e1, e2⟩ := plLit_inj (wf_small (by omega)) (wf_small (by omega)) (wf_small (by omega)) (wf_small (by omega)) (WideAt.sameKey_eq hs)
        omega
    dsimp only
    simp only [h1, Bool.not_false, Bool.and_true]
theorem tabLeft_start {ss : List Sc} {le : List Ent} (hf : le.map Prod.fst = placed 0 ss) : (List.replicate 30 (.int .i64 0) : List Value) = tblL (tabLeft ss (Maps.has (entsD le))) := by
  have e : tblL (fun _ => 0) = tblL (tabLeft ss (Maps.has (entsD le))) := tblL_congr fun k _ => by
    unfold tabLeft
    by_cases h : Maps.has (entsD le) (plLit ((k / 5 : Nat) : Int) ((k % 5 : Nat) : Int)) = true
    · rw [if_pos h]
    · rw [if_neg h]
      unfold tabF tabT
      by_cases hm : meanAt ss ((k / 5 : Nat) : Int) ((k % 5 : Nat) : Int) = []
      · rw [hm]; rfl
      · exfalso
        obtain ⟨x, hq, -⟩ := mean_ofAt hm
        rw [← hf] at hq
        obtain ⟨e, he, hee⟩ := List.mem_map.1 hq
        apply h
        have h1 := (putInto_has entKey entVal entKey_is (entKey e) le (.map []) nilMap).2 (.inr ⟨e, he, rfl⟩)
        have h2 : entKey e = plLit ((k / 5 : Nat) : Int) ((k % 5 : Nat) : Int) := by
          unfold entKey
          rw [hee]
          rfl
        rw [h2] at h1
        exact h1
  rw [← e]
  rfl
theorem tabLeft_end {ss : List Sc} {left : Lit → Bool} (h : ∀ kl, left kl = false) : tblL (tabLeft ss left) = tblL (tabF ss) :=
  tblL_congr fun k _ => by unfold tabLeft; rw [h, if_neg (by decide)]
theorem tab_none {ss : List Sc} {i j : Nat} {x : It} (hq : (i, j, x) ∈ placed 0 ss) (h : (meanIt ss (i, j, x)).length = 0) : tabT ss i j = 0 := by
  unfold tabT
  rw [meanAt_of hq, List.length_eq_zero_iff.1 h]
  rfl
theorem tab_more {ss : List Sc} {i j : Nat} {x : It} (hq : (i, j, x) ∈ placed 0 ss) (h0 : (meanIt ss (i, j, x)).length ≠ 0) (h1 : (meanIt ss (i, j, x)).length ≠ 1) : tabT ss i j = -1 := by
  unfold tabT
  rw [meanAt_of hq]
  exact boundT_several.2 (by omega)
theorem tab_one {ss : List Sc} (hv : Valid ss) {i j : Nat} {x : It} (hq : (i, j, x) ∈ placed 0 ss) {p : Int × Int} (h : meanIt ss (i, j, x) = [p]) : ∃ k : Nat, (dclP ss)[k]? = some p ∧ tabT ss i j = (k : Int) + 1 ∧ k < 30 := by
  have hm := mean_dcl hv hq p (by rw [h]; simp)
  have h0 := posOf_mem hm
  have hr := posOf_range (dclP ss) p
  have h1 := plsOf_length 1 (placed 0 ss)
  have h2 := placed_bound 0 ss 6 5 hv.count.2 hv.five
  refine ⟨(posOf (dclP ss) p).toNat, posOf_get h0, ?_, ?_⟩
  · unfold tabT
    rw [meanAt_of hq, h]
    show posOf (dclP ss) p + 1 = _
    omega
  · unfold dclP plsP at hr ⊢
    omega
theorem dcl_small {ss : List Sc} (hv : Valid ss) : ∀ p ∈ dclP ss, (Lit.int .i64 p.1).wf = true ∧ (Lit.int .i64 p.2).wf = true := by
  intro p hp
  unfold dclP plsP plsOf at hp
  obtain ⟨q, hq, rfl⟩ := List.mem_map.1 hp
  have h := hv.small.lt (List.mem_filter.1 hq).1
  exact ⟨wf_small h.1, wf_small h.2⟩
set_option maxRecDepth 100000 in
set_option maxHeartbeats 16000000 in
theorem bindings_any {ss : List Sc} (hv : Valid ss) {w : World} {B R T M1 M2 MR : Nat} {v : Value} {ds : List Nd} {le : List Ent} (hR : ResW w B R T M1 M2 MR v ds ss le) :
    Calls Tryz.prog 73 #[.pointer (some ⟨R, 0, none⟩)] w fun e w' => e = .returned (.agg (tblL (tabF ss)).toArray) ∧ Below w.heap.size w w' := by
  have hmm := @run_makeMap Tryz.prog
  have HR := Lib.hid hR
  have HV := Lib.hid hv
  have hb2 : Below w.heap.size w ((w.alloc (.cells #[.int .i64 0, .int .i64 0, .int .i64 0, .int .i64 0, .int .i64 0, .int .i64 0, .int .i64 0, .int .i64 0, .int .i64 0, .int .i64 0, .int .i64 0, .int .i64 0, .int .i64 0, .int .i64 0, .int .i64 0, .int .i64 0, .int .i64 0, .int .i64 0, .int .i64 0, .int .i64 0, .int .i64 0, .int .i64 0, .int .i64 0, .int .i64 0, .int .i64 0, .int .i64 0, .int .i64 0, .int .i64 0, .int .i64 0, .int .i64 0] 79)).alloc (.map #[] 0)) := ((Below.refl _ _).alloc (Nat.le_refl _) _).alloc (by simp) _
  have r0 := ((hR.box.alloc (.cells #[.int .i64 0, .int .i64 0, .int .i64 0, .int .i64 0, .int .i64 0, .int .i64 0, .int .i64 0, .int .i64 0, .int .i64 0, .int .i64 0, .int .i64 0, .int .i64 0, .int .i64 0, .int .i64 0, .int .i64 0, .int .i64 0, .int .i64 0, .int .i64 0, .int .i64 0, .int .i64 0, .int .i64 0, .int .i64 0, .int .i64 0, .int .i64 0, .int .i64 0, .int .i64 0, .int .i64 0, .int .i64 0, .int .i64 0, .int .i64 0] 79)).alloc (.map #[] 0)).cell (i := 0) (v := .pointer (some ⟨T, 0, none⟩)) (by rfl)
  have HBA := Lib.hid ((Row.new w [.int .i64 0, .int .i64 0, .int .i64 0, .int .i64 0, .int .i64 0, .int .i64 0, .int .i64 0, .int .i64 0, .int .i64 0, .int .i64 0, .int .i64 0, .int .i64 0, .int .i64 0, .int .i64 0, .int .i64 0, .int .i64 0, .int .i64 0, .int .i64 0, .int .i64 0, .int .i64 0, .int .i64 0, .int .i64 0, .int .i64 0, .int .i64 0, .int .i64 0, .int .i64 0, .int .i64 0, .int .i64 0, .int .i64 0, .int .i64 0] 79).alloc (.map #[] 0))
  have hNW : NumW ((w.alloc (.cells #[.int .i64 0, .int .i64 0, .int .i64 0, .int .i64 0, .int .i64 0, .int .i64 0, .int .i64 0, .int .i64 0, .int .i64 0, .int .i64 0, .int .i64 0, .int .i64 0, .int .i64 0, .int .i64 0, .int .i64 0, .int .i64 0, .int .i64 0, .int .i64 0, .int .i64 0, .int .i64 0, .int .i64 0, .int .i64 0, .int .i64 0, .int .i64 0, .int .i64 0, .int .i64 0, .int .i64 0, .int .i64 0, .int .i64 0, .int .i64 0] 79)).alloc (.map #[] 0)) (w.heap.size + 1) 0 [] := by
    have h := World.ownsMap_made (H := Unit) (w.alloc (.cells #[.int .i64 0, .int .i64 0, .int .i64 0, .int .i64 0, .int .i64 0, .int .i64 0, .int .i64 0, .int .i64 0, .int .i64 0, .int .i64 0, .int .i64 0, .int .i64 0, .int .i64 0, .int .i64 0, .int .i64 0, .int .i64 0, .int .i64 0, .int .i64 0, .int .i64 0, .int .i64 0, .int .i64 0, .int .i64 0, .int .i64 0, .int .i64 0, .int .i64 0, .int .i64 0, .int .i64 0, .int .i64 0, .int .i64 0, .int .i64 0] 79)) Tryz.prog 59 (plainElem Tryz.prog 3)
    rw [World.size_alloc] at h
    exact num_nil h
  have HNW := Lib.hid hNW
  have HB2 := Lib.hid hb2
  have C := Lib.hid (treePls_any hv (hR.tree.below hb2) 1)
  clear hR hv hb2 hNW
  go_enter Tryz.func73, Tryz.ntmps73
  go_wp2_with fail
  refine C.out.mono ?_
  rintro e w3 ⟨u, rfl, hown, hb3⟩
  rw [show plsP ss 1 = dclP ss from rfl] at hown
  obtain ⟨oa, cp, rfl, harg⟩ := argPlaces_of_owns hown
  have HARG := Lib.hid harg
  have HB3 := Lib.hid (HB2.out.trans (hb3.mono HB2.out.size))
  have HA3 := Lib.hid (HBA.out.below hb3 HBA.out.lt)
  have HN3 := Lib.hid (HNW.out.same (hb3.block _ HNW.out.lt))
  have HND := Lib.hid (dcl_nodup ss)
  have HSM := Lib.hid (dcl_small HV.out)
  have HLN : Hid ((dclP ss).length ≤ 30) := Lib.hid (by
    have h1 := plsOf_length 1 (placed 0 ss)
    have h2 := placed_bound 0 ss 6 5 HV.out.count.2 HV.out.five
    unfold dclP plsP
    omega)
  clear hown harg hb3 r0
  go_wp2
  go_loopw [17] (fun i wr => ∃ k : Nat, i = .int .i64 k ∧ k ≤ (dclP ss).length ∧ Hid (NumRun w w3 (w.heap.size + 1) k True ((dclP ss).take k) wr)) (fun i _ => (dclP ss).length - (intOf i).toNat)
  case atStart =>
    obtain ⟨D0, hm0, hi0⟩ := HN3.out
    exact ⟨0, rfl, Nat.zero_le _, Lib.hid ⟨HB3.out, CellsKept.refl _ _, 0, D0, Nat.le_refl _, hm0, fun _ => hi0⟩⟩
  case round =>
    obtain ⟨k, rfl, hk, hP⟩ := hrel
    by_cases hlt : k < (dclP ss).length
    · obtain ⟨p, hp⟩ : ∃ p, (dclP ss)[k]? = some p := ⟨_, List.getElem?_eq_getElem hlt⟩
      obtain ⟨a, b⟩ := p
      have hw := HSM.out _ (List.mem_of_getElem? hp)
      obtain ⟨b1, f1, rfl, hb1, q1⟩ := HARG.out.at (by omega)
      obtain ⟨c0, c1⟩ := q1 k _ hp
      obtain ⟨h1, h0, n, Dn, h2, h3, h4⟩ := hP.out
      have d0 := h0.cell hb1 c0
      have d1 := h0.cell hb1 c1
      have h3a := ownsMap_same h3 (((Below.refl wr.heap.size wr).alloc (Nat.le_refl _) (.cells #[.int .i64 a, .int .i64 b] 59)).block _ h3.lt)
      have hb1a := (Below.refl wr.heap.size wr).alloc (Nat.le_refl _) (.cells #[.int .i64 a, .int .i64 b] 59)
      have RP := Row.new wr [.int .i64 a, .int .i64 b] 59
      have p0 := RP.cell (i := 0) (v := .int .i64 a) (by rfl)
      have p1 := RP.cell (i := 1) (v := .int .i64 b) (by rfl)
      have h30 := HLN.out
      obtain ⟨-, hle, w6, hrun6, hm6, hg6⟩ := num_put h3a (by omega) hw.1 hw.2
      have hsk : Maps.size Dn = k := by rw [(h4 trivial).size, List.length_take]; omega
      have hnew : (a, b) ∉ (dclP ss).take k := fun hm => by
        obtain ⟨j, hj⟩ := List.mem_iff_getElem?.1 hm
        have hjk : j < k := by have := (List.getElem?_eq_some_iff.1 hj).1; rw [List.length_take] at this; omega
        rw [List.getElem?_take_of_lt hjk] at hj
        have e1 := posOf_at HND.out hj
        have e2 := posOf_at HND.out hp
        omega
      have HU6 : Hid (NumRun w w3 (w.heap.size + 1) (k + 1) True ((dclP ss).take (k + 1)) w6) := Lib.hid (by
        rw [List.take_add_one, hp]
        have h1a := h1.trans (hb1a.mono h1.size)
        have h0a := h0.trans ((CellsKept.of_below hb1a).mono h0.size)
        exact ⟨h1a.trans (below_grown1' hg6 h1a.size (fun r e => by cases e; omega)), h0a.trans ((cells_num h3a hg6).mono h0a.size), n + 1, _, by omega, hm6, fun _ => (h4 trivial).put h3a hw.1 hw.2 hnew⟩)
      rw [hsk] at hrun6
      clear h1 h0 h3 h4 h3a hb1a RP hm6 hg6 c0 c1 hp hw hnew hle hsk q1
      go_wp2
      go_roundw
      case rel => exact ⟨k + 1, by go_num, by omega, HU6⟩
      case measure => simp only [intOf]; omega
    · obtain rfl : k = (dclP ss).length := by omega
      obtain ⟨h1, h0, n, Dn, h2, h3, h4⟩ := hP.out
      have HNM : Hid (NumW wr (w.heap.size + 1) n (dclP ss)) := Lib.hid ⟨Dn, h3, by have h5 := h4 trivial; rw [List.take_length] at h5; exact h5⟩
      have HB1 := Lib.hid h1
      have HRW := Lib.hid (HR.out.below h1)
      have HA1 := Lib.hid (HA3.out.cells h0)
      generalize wr = W1 at *
      have hbT := (Below.refl W1.heap.size W1).alloc (Nat.le_refl _) (.cells #[.int .i64 0, .int .i64 0, .int .i64 0, .int .i64 0, .int .i64 0, .int .i64 0, .int .i64 0, .int .i64 0, .int .i64 0, .int .i64 0, .int .i64 0, .int .i64 0, .int .i64 0, .int .i64 0, .int .i64 0, .int .i64 0, .int .i64 0, .int .i64 0, .int .i64 0, .int .i64 0, .int .i64 0, .int .i64 0, .int .i64 0, .int .i64 0, .int .i64 0, .int .i64 0, .int .i64 0, .int .i64 0, .int .i64 0, .int .i64 0] 79)
      have HRM := Lib.hid (HRW.out.mean.map.alloc (.cells #[.int .i64 0, .int .i64 0, .int .i64 0, .int .i64 0, .int .i64 0, .int .i64 0, .int .i64 0, .int .i64 0, .int .i64 0, .int .i64 0, .int .i64 0, .int .i64 0, .int .i64 0, .int .i64 0, .int .i64 0, .int .i64 0, .int .i64 0, .int .i64 0, .int .i64 0, .int .i64 0, .int .i64 0, .int .i64 0, .int .i64 0, .int .i64 0, .int .i64 0, .int .i64 0, .int .i64 0, .int .i64 0, .int .i64 0, .int .i64 0] 79))
      have HT0 : Hid (Row (W1.alloc (.cells #[.int .i64 0, .int .i64 0, .int .i64 0, .int .i64 0, .int .i64 0, .int .i64 0, .int .i64 0, .int .i64 0, .int .i64 0, .int .i64 0, .int .i64 0, .int .i64 0, .int .i64 0, .int .i64 0, .int .i64 0, .int .i64 0, .int .i64 0, .int .i64 0, .int .i64 0, .int .i64 0, .int .i64 0, .int .i64 0, .int .i64 0, .int .i64 0, .int .i64 0, .int .i64 0, .int .i64 0, .int .i64 0, .int .i64 0, .int .i64 0] 79)) W1.heap.size 79 (tblL (tabLeft ss (Maps.has (entsD le))))) := Lib.hid (by
        rw [← tabLeft_start HR.out.full]
        exact Row.new W1 [.int .i64 0, .int .i64 0, .int .i64 0, .int .i64 0, .int .i64 0, .int .i64 0, .int .i64 0, .int .i64 0, .int .i64 0, .int .i64 0, .int .i64 0, .int .i64 0, .int .i64 0, .int .i64 0, .int .i64 0, .int .i64 0, .int .i64 0, .int .i64 0, .int .i64 0, .int .i64 0, .int .i64 0, .int .i64 0, .int .i64 0, .int .i64 0, .int .i64 0, .int .i64 0, .int .i64 0, .int .i64 0, .int .i64 0, .int .i64 0] 79)
      have HBT := Lib.hid hbT
      have HSB : Hid (W1.heap.size < (W1.alloc (.cells #[.int .i64 0, .int .i64 0, .int .i64 0, .int .i64 0, .int .i64 0, .int .i64 0, .int .i64 0, .int .i64 0, .int .i64 0, .int .i64 0, .int .i64 0, .int .i64 0, .int .i64 0, .int .i64 0, .int .i64 0, .int .i64 0, .int .i64 0, .int .i64 0, .int .i64 0, .int .i64 0, .int .i64 0, .int .i64 0, .int .i64 0, .int .i64 0, .int .i64 0, .int .i64 0, .int .i64 0, .int .i64 0, .int .i64 0, .int .i64 0] 79)).heap.size) := Lib.hid (by simp)
      have r1 := (HRW.out.box.alloc (.cells #[.int .i64 0, .int .i64 0, .int .i64 0, .int .i64 0, .int .i64 0, .int .i64 0, .int .i64 0, .int .i64 0, .int .i64 0, .int .i64 0, .int .i64 0, .int .i64 0, .int .i64 0, .int .i64 0, .int .i64 0, .int .i64 0, .int .i64 0, .int .i64 0, .int .i64 0, .int .i64 0, .int .i64 0, .int .i64 0, .int .i64 0, .int .i64 0, .int .i64 0, .int .i64 0, .int .i64 0, .int .i64 0, .int .i64 0, .int .i64 0] 79)).cell (i := 1) (v := .map (some MR)) (by rfl)
      clear h1 h0 h3 h4 hbT hP
      go_wp2_with (first
        | (at_range; refine wpList_range_own _ rfl _ 125 rfl 59 36 placeLaw Tryz.underlying125 sliceR MR le.length (entsD le) rfl HRM.out ?_; intro w0 hrg0 hg0 hs0)
        | go_in)
      go_frame
      generalize hWT : W1.alloc (.cells #[.int .i64 0, .int .i64 0, .int .i64 0, .int .i64 0, .int .i64 0, .int .i64 0, .int .i64 0, .int .i64 0, .int .i64 0, .int .i64 0, .int .i64 0, .int .i64 0, .int .i64 0, .int .i64 0, .int .i64 0, .int .i64 0, .int .i64 0, .int .i64 0, .int .i64 0, .int .i64 0, .int .i64 0, .int .i64 0, .int .i64 0, .int .i64 0, .int .i64 0, .int .i64 0, .int .i64 0, .int .i64 0, .int .i64 0, .int .i64 0] 79) = WT at *
      have HI0 : Hid (Below W1.heap.size W1 w0 ∧ Row w0 W1.heap.size 79 (tblL (tabLeft ss (Maps.has (entsD le))))) := Lib.hid
        ⟨HBT.out.trans (below_of_grown hg0 HBT.out.size (fun g e => by cases e)), HT0.out.same (hg0.block _ HSB.out (fun e => by cases e))⟩
      clear hg0 r1 hWT
      go_loopw [32] (fun _ wr => ∃ (left : Lit → Bool) (cnt : Nat), wr.ranges Tryz.prog 59 sliceR MR WT.heap.size le.length (entsD le) left cnt ∧ Hid (Below W1.heap.size W1 wr ∧ Row wr W1.heap.size 79 (tblL (tabLeft ss left)))) (fun _ wr => wr.rangeLeft MR WT.heap.size)
      case atStart => exact ⟨_, _, hrg0, HI0⟩
      case round =>
        obtain ⟨left, cnt, hrg, HP⟩ := hrel
        go_wp2_with (first
          | (at_next; refine wpList_next_means HV.out HR.out.full HR.out.mean.lists rfl _ rfl rfl hrg ?_ ?_)
          | go_in)
        · intro hl0
          have hs1 := HP.out.2
          rw [tabLeft_end hl0] at hs1
          have hs0' := HA1.out.below HP.out.1 HA1.out.lt
          unfold Row at hs1 hs0'
          have HBE := Lib.hid (HB1.out.trans (HP.out.1.mono HB1.out.size))
          go_wp2_with (first
            | (refine wpList_load_row rfl 79 _ rfl W1.heap.size rfl 79 _ (0, 0) _ hs1 Tryz.underlying79 rfl (tblL_info _) ?_)
            | (refine wpList_store_row rfl 79 _ _ rfl w.heap.size (tblL (tabF ss)).toArray rfl rfl 79 _ hs0' (tblL_info (fun _ => 0)) (by simp [tblL_length]) (tblL_one _) ?_))
          refine bodyPost_ret (results_cell_row rfl _ _ w.heap.size 79 _ (0, 0) _ rfl (setRow_heap _ _ _ (tblL (tabF ss)).toArray _ _ hs0') Tryz.underlying79 rfl (tblL_info _)) rfl ⟨rfl, ?_⟩
          have hbs := HBE.out.trans ((below_setRow _ w.heap.size (tblL (tabF ss)).toArray (Nat.le_refl _)))
          exact hbs
        · intro i j x oa c w1 cnt1 he hrg1 hlt hg1 hs1 hen
          have hTW := HSB.out
          have HW1 := Lib.hid (HP.out.1.trans (below_of_grown hg1 HP.out.1.size (fun g e => by cases e; exact Nat.le_of_lt hTW)))
          have HR1 := Lib.hid (HP.out.2.same (hg1.block _ HP.out.2.lt (fun e => by have := Option.some.inj e; omega)))
          have hq : (i, j, x) ∈ placed 0 ss := HR.out.full ▸ List.mem_map_of_mem (f := Prod.fst) he
          have hlt6 : i < 6 ∧ j < 5 := by
            obtain ⟨s, h1, h2⟩ := placed_at hq
            dsimp only at h1 h2
            have a1 := (List.getElem?_eq_some_iff.1 h1).1
            have a2 := (List.getElem?_eq_some_iff.1 h2).1
            have a3 := HV.out.count.2
            have a4 := HV.out.five s (List.mem_of_getElem? h1)
            omega
          obtain ⟨oa', c', he1, harg⟩ := argPlaces_of_owns (HR.out.mean.lists _ he)
          dsimp only at he1
          simp only [Value.slice.injEq] at he1
          obtain ⟨rfl, -, rfl⟩ := he1
          have HARG := Lib.hid harg
          have HQ := Lib.hid hq
          have HSP := Lib.hid (tabLeft_step (ss := ss) (left := left) hlt6.1 hlt6.2)
          have HML := Lib.hid (meanIt_length HV.out (i, j, x))
          have HCN := Lib.hid hlt
          have HBW := Lib.hid ((Below.refl w1.heap.size w1).alloc (Nat.le_refl _) (.cells #[.int .i64 (i : Int), .int .i64 (j : Int)] 59))
          have RQ := Lib.hid (Row.new w1 [.int .i64 (i : Int), .int .i64 (j : Int)] 59)
          have HRW1 := Lib.hid hrg1
          have p0 := RQ.out.cell (i := 0) (v := .int .i64 (i : Int)) (by rfl)
          have p1 := RQ.out.cell (i := 1) (v := .int .i64 (j : Int)) (by rfl)
          have HDR : Hid (∀ (W : World) (q : Nat), World.drewN (w1.alloc (.cells #[.int .i64 (i : Int), .int .i64 (j : Int)] 59)) q = W → Below w1.heap.size w1 W) := Lib.hid (fun W q e => by
            subst e
            exact below_drewN HBW.out q)
          have hi6 : (i : Int) < 6 := by omega
          have hj5 : (j : Int) < 5 := by omega
          clear he hq hrg1 hg1 hs1 harg hlt
          go_wp2
          go_quiet (fail)
          generalize hWD : World.drewN _ _ = wD
          have HBD := Lib.hid (HDR.out _ _ hWD)
          have HXD := Lib.hid (HW1.out.trans (HBD.out.mono HW1.out.size))
          have HRD := Lib.hid (HR1.out.below HBD.out HR1.out.lt)
          have HRGD := Lib.hid (ranges_same HRW1.out (HBD.out.block _ HRW1.out.owns.lt) (HBD.out.block _ HRW1.out.lt))
          clear hWD p0 p1
          have hn30 : i * 5 + j < 30 := by omega
          have t0 := HRD.out.cell (tblL_get _ hn30)
          have tf := HRD.out.frozen (i * 5 + j)
          have HNEW : Hid (∀ val : Int, tabT ss i j = val → Below W1.heap.size W1 (wD.setCell ⟨W1.heap.size, i * 5 + j, none⟩ (.int .i64 val)) ∧ Row (wD.setCell ⟨W1.heap.size, i * 5 + j, none⟩ (.int .i64 val)) W1.heap.size 79 (tblL (tabLeft ss fun z => left z && !z.sameKey (plLit (i : Int) (j : Int)))) ∧
              (wD.setCell ⟨W1.heap.size, i * 5 + j, none⟩ (.int .i64 val)).ranges Tryz.prog 59 sliceR MR WT.heap.size le.length (entsD le) (fun z => left z && !z.sameKey (plLit (i : Int) (j : Int))) cnt1) := Lib.hid (fun val hv => by
            refine ⟨HXD.out.setCell (Nat.le_refl _) _, ?_, ranges_same HRGD.out (Below.heap_setCell _ _ _ _ (by show MR ≠ W1.heap.size; have := HRW.out.mean.map.lt; omega)) (Below.heap_setCell _ _ _ _ (by show WT.heap.size ≠ W1.heap.size; omega))⟩
            rw [HSP.out, hv]
            exact HRD.out.set _ _)
          by_cases hl0 : (meanIt ss (i, j, x)).length = 0
          · have e0 : (((meanIt ss (i, j, x)).length : Int) == 0) = true := by simp [hl0]
            have HN := Lib.hid (HNEW.out 0 (tab_none HQ.out hl0))
            clear hl0
            go_wp2
            go_roundw
            case rel => exact ⟨_, cnt1, HN.out.2.2, Lib.hid ⟨HN.out.1, HN.out.2.1⟩⟩
            case measure => rw [HN.out.2.2.left_eq, hrg.left_eq]; exact HCN.out
          · by_cases hl1 : (meanIt ss (i, j, x)).length = 1
            · obtain ⟨p, hp⟩ := List.length_eq_one_iff.1 hl1
              obtain ⟨k, hk, htk, hk30⟩ := tab_one HV.out HQ.out hp
              have e0 : (((meanIt ss (i, j, x)).length : Int) == 0) = false := by rw [beq_eq_false_iff_ne]; omega
              have e1 : (((meanIt ss (i, j, x)).length : Int) == 1) = true := by rw [hl1]; rfl
              obtain ⟨a, b⟩ := p
              obtain ⟨b3, f3, rfl, hb3, q3⟩ := (HARG.out.below (HB1.out.trans (HXD.out.mono HB1.out.size))).at (by omega)
              obtain ⟨u0, u1⟩ := q3 0 (a, b) (by rw [hp]; rfl)
              simp only [Nat.zero_mul, Nat.add_zero] at u0 u1
              have HN := Lib.hid (HNEW.out ((k : Int) + 1) htk)
              have hlk := num_look (HNM.out.same (show wD.heap[w.heap.size + 1]? = W1.heap[w.heap.size + 1]? from HXD.out.block _ HNM.out.lt)) hk
              have hp0 : 0 < (meanIt ss (i, j, x)).length := by omega
              clear hp hk htk hl0 hl1 q3 hb3
              go_wp2
              go_roundw
              case rel => exact ⟨_, cnt1, HN.out.2.2, Lib.hid ⟨HN.out.1, HN.out.2.1⟩⟩
              case measure => rw [HN.out.2.2.left_eq, hrg.left_eq]; exact HCN.out
            · have e0 : (((meanIt ss (i, j, x)).length : Int) == 0) = false := by rw [beq_eq_false_iff_ne]; omega
              have e1 : (((meanIt ss (i, j, x)).length : Int) == 1) = false := by rw [beq_eq_false_iff_ne]; omega
              have HN := Lib.hid (HNEW.out (-1) (tab_more HQ.out hl0 hl1))
              clear hl0 hl1
              go_wp2
              go_roundw
              case rel => exact ⟨_, cnt1, HN.out.2.2, Lib.hid ⟨HN.out.1, HN.out.2.1⟩⟩
              case measure => rw [HN.out.2.2.left_eq, hrg.left_eq]; exact HCN.out
end Go.Proofs.YtgehpaojbnpbcaaGreatDoor
namespace Go.Proofs.YtgehpaojbnpbcaaGreatDoor
open Go Go.RowKit
theorem enc_byte {b : UInt8} (h1 : 97 ≤ b.toNat) (h2 : b.toNat ≤ 122) : Utf8.encode ((b.toNat : Nat) : Int) = ⟨#[b]⟩ := by
  have h3 := encode_letter (k := b.toNat - 97) (by omega)
  rw [show 97 + (b.toNat - 97) = b.toNat by omega] at h3
  rw [h3]
  unfold letterB
  rw [show 97 + (b.toNat - 97) = b.toNat by omega, UInt8.ofNat_toNat]
/-- A table of numbers that lies in a block behind some cells. -/
structure TblAt (w : World) (G o : Nat) (f : Nat → Int) : Prop where
  lt : G < w.heap.size
  cell : ∀ k, k < 30 → w.cell? ⟨G, o + k, none⟩ = some (.int .i64 (f k))
theorem TblAt.below {w w' : World} {G o n : Nat} {f : Nat → Int} (h : TblAt w G o f) (hb : Below n w w') (hl : G < n) : TblAt w' G o f :=
  ⟨Nat.lt_of_lt_of_le h.lt hb.size, fun k hk => (World.cell?_of_block (a := ⟨G, o + k, none⟩) (hb.block G hl)).trans (h.cell k hk)⟩
theorem TblAt.at {w : World} {G o : Nat} {f : Nat → Int} (h : TblAt w G o f) (a b : Nat) (hk : a + b < 30) : w.cell? ⟨G, o + a + b, none⟩ = some (.int .i64 (f (a + b))) := by
  rw [Nat.add_assoc]
  exact h.cell (a + b) hk
set_option maxRecDepth 100000 in
set_option maxHeartbeats 4000000 in
/-- The renaming that a table gives, at a place. -/
theorem rnm1_any (i j A N : Nat) (hi : i < 6) (hj : j < 5) (f : Nat → Int) (names old nm : ByteArray) (W : World) {G o : Nat} (hG : TblAt W G o f) (hA : Row W A 164 [.pointer (some ⟨G, o, none⟩)]) (hN : Row W N 9 [.string names])
    (hf : (f (i * 5 + j) = 0 ∧ nm = ⟨#[122]⟩) ∨ ∃ k : Nat, f (i * 5 + j) = (k : Int) + 1 ∧ ∃ hk : k < names.size, 97 ≤ (names[k]'hk).toNat ∧ (names[k]'hk).toNat ≤ 122 ∧ nm = ⟨#[names[k]'hk]⟩) (hsz : names.size ≤ 1000) :
    Calls Tryz.prog 105 #[.agg #[.int .i64 (i : Int), .int .i64 (j : Int)], .string old, .pointer (some ⟨A, 0, none⟩), .pointer (some ⟨N, 0, none⟩)] W fun e W' => e = .returned (.string nm) ∧ Below W.heap.size W W' := by
  have hb := (Below.refl W.heap.size W).alloc (Nat.le_refl _) (.cells #[.int .i64 (i : Int), .int .i64 (j : Int)] 59)
  have R1 := Row.new W [.int .i64 (i : Int), .int .i64 (j : Int)] 59
  have p0 := R1.cell (i := 0) (v := .int .i64 (i : Int)) (by rfl)
  have p1 := R1.cell (i := 1) (v := .int .i64 (j : Int)) (by rfl)
  have a0 := (hA.below hb hA.lt).cell (i := 0) (v := .pointer (some ⟨G, o, none⟩)) (by rfl)
  have t0 := (hG.below hb hG.lt).at (i * 5) j (by omega)
  have HN0 := Lib.hid (hN.below hb hN.lt)
  have hi6 : (i : Int) < 6 := by omega
  have hj5 : (j : Int) < 5 := by omega
  have HB := Lib.hid hb
  clear hb R1 hG hA hN
  rcases hf with ⟨hf, rfl⟩ | ⟨k, hf, hk, ha, hz, rfl⟩
  · rw [hf] at t0
    have HDR : Hid (∀ (w : World) (q : Nat), World.drewN (W.alloc (.cells #[.int .i64 (i : Int), .int .i64 (j : Int)] 59)) q = w → Below W.heap.size W w) := Lib.hid (fun w q e => by
      subst e
      exact below_drewN HB.out q)
    go_enter Tryz.func105, Tryz.ntmps105
    go_wp2
    go_quiet (fail)
    generalize hWD : World.drewN _ _ = wD
    have HBD := Lib.hid (HDR.out _ _ hWD)
    clear hWD p0 p1 a0 t0
    go_wp2
    go_ret
    exact ⟨rfl, HBD.out⟩
  · rw [hf] at t0
    have HDR : Hid (∀ (w : World) (q : Nat), World.drewN (W.alloc (.cells #[.int .i64 (i : Int), .int .i64 (j : Int)] 59)) q = w → Below W.heap.size W w ∧ Row w N 9 [.string names]) := Lib.hid (fun w q e => by
      subst e
      exact ⟨below_drewN HB.out q, HN0.out.below (below_drewN (Below.refl _ _) q) HN0.out.lt⟩)
    have e0 : (((k : Int) + 1) == 0) = false := by rw [beq_eq_false_iff_ne]; omega
    have hwr : IntKind.i64.wrap ((k : Int) + 1 - 1) = (k : Int) := by rw [wrap_small _ (by omega) (by omega)]; omega
    have hcv : Utf8.encode (((names[k]'hk).toNat : Nat) : Int) = ⟨#[names[k]'hk]⟩ := enc_byte ha hz
    go_enter Tryz.func105, Tryz.ntmps105
    go_wp2
    go_quiet (fail)
    generalize hWD : World.drewN _ _ = wD
    have HBD := Lib.hid (HDR.out _ _ hWD)
    have n0 := HBD.out.2.cell (i := 0) (v := .string names) (by rfl)
    clear hWD p0 p1 a0 t0
    go_wp2
    go_ret
    exact ⟨rfl, HBD.out.1⟩
theorem index5_run (c : Nat → Int) {j : Nat} (hj : j < 5) (W : World) : (Instr.index 77 (.agg #[.int .i64 (c 0), .int .i64 (c 1), .int .i64 (c 2), .int .i64 (c 3), .int .i64 (c 4)]) (.int .i64 (j : Int))).run Tryz.prog W = .ok (.int .i64 (c j)) W := by
  have h : j = 0 ∨ j = 1 ∨ j = 2 ∨ j = 3 ∨ j = 4 := by omega
  clear hj
  rcases h with rfl | rfl | rfl | rfl | rfl
  · show (Instr.index 77 (.agg #[.int .i64 (c 0), .int .i64 (c 1), .int .i64 (c 2), .int .i64 (c 3), .int .i64 (c 4)]) (.int .i64 0)).run Tryz.prog W = .ok (.int .i64 (c 0)) W
    kernel_rfl
  · show (Instr.index 77 (.agg #[.int .i64 (c 0), .int .i64 (c 1), .int .i64 (c 2), .int .i64 (c 3), .int .i64 (c 4)]) (.int .i64 1)).run Tryz.prog W = .ok (.int .i64 (c 1)) W
    kernel_rfl
  · show (Instr.index 77 (.agg #[.int .i64 (c 0), .int .i64 (c 1), .int .i64 (c 2), .int .i64 (c 3), .int .i64 (c 4)]) (.int .i64 2)).run Tryz.prog W = .ok (.int .i64 (c 2)) W
    kernel_rfl
  · show (Instr.index 77 (.agg #[.int .i64 (c 0), .int .i64 (c 1), .int .i64 (c 2), .int .i64 (c 3), .int .i64 (c 4)]) (.int .i64 3)).run Tryz.prog W = .ok (.int .i64 (c 3)) W
    kernel_rfl
  · show (Instr.index 77 (.agg #[.int .i64 (c 0), .int .i64 (c 1), .int .i64 (c 2), .int .i64 (c 3), .int .i64 (c 4)]) (.int .i64 4)).run Tryz.prog W = .ok (.int .i64 (c 4)) W
    kernel_rfl
theorem wpList_index5 {ops : Array Oper} {rest : List Oper} {o : Oper} {a : Act} {w : World} {Q : Exit → Act → World → Prop} (hgd : o.guard = none) (x i : Operand) (ho : o.op = .index 77 x i) (c : Nat → Int) (j : Nat) (hj : j < 5)
    (hx : a.eval x = .agg #[.int .i64 (c 0), .int .i64 (c 1), .int .i64 (c 2), .int .i64 (c 3), .int .i64 (c 4)]) (hi : a.eval i = .int .i64 (j : Int)) (h : wpList Tryz.prog ops Q rest (a.put o.dst (.int .i64 (c j))) w) : wpList Tryz.prog ops Q (o :: rest) a w :=
  wpList_plain hgd fun _ hK => by
    unfold Oper.wp execOp
    simp [ho, hx, hi, index5_run c hj w, Result.andThen]
    exact hK _ _ h
set_option maxRecDepth 100000 in
set_option maxHeartbeats 8000000 in
theorem has_any {w : World} {G o : Nat} {f : Nat → Int} (hG : TblAt w G o f) (x : Int) :
    Calls Tryz.prog 75 #[.pointer (some ⟨G, o, none⟩), .int .i64 x] w fun e w' => ∃ b : Bool, e = .returned (.bool b) ∧ (b = true ↔ ∃ k, k < 30 ∧ f k = x) ∧ Below w.heap.size w w' := by
  have HG := Lib.hid hG
  clear hG
  go_enter Tryz.func75, Tryz.ntmps75
  go_wp2
  go_loopw [11] (fun i wr => ∃ k : Nat, i = .int .i64 k ∧ k ≤ 6 ∧ Hid ((∀ m, m < k * 5 → f m ≠ x) ∧ Below w.heap.size w wr)) (fun i _ => 6 - (intOf i).toNat)
  case atStart => exact ⟨0, rfl, by omega, Lib.hid ⟨fun m h => by omega, Below.refl _ _⟩⟩
  case round =>
    obtain ⟨k, rfl, hk, hP⟩ := hrel
    by_cases hlt : k < 6
    · have HR := HG.out.below hP.out.2 HG.out.lt
      have t0 : wr.cell? ⟨G, o + k * 5, none⟩ = some (.int .i64 (f (k * 5))) := HR.cell (k * 5) (by omega)
      have t1 : wr.cell? ⟨G, o + k * 5 + 1, none⟩ = some (.int .i64 (f (k * 5 + 1))) := HR.at (k * 5) 1 (by omega)
      have t2 : wr.cell? ⟨G, o + k * 5 + 2, none⟩ = some (.int .i64 (f (k * 5 + 2))) := HR.at (k * 5) 2 (by omega)
      have t3 : wr.cell? ⟨G, o + k * 5 + 3, none⟩ = some (.int .i64 (f (k * 5 + 3))) := HR.at (k * 5) 3 (by omega)
      have t4 : wr.cell? ⟨G, o + k * 5 + 4, none⟩ = some (.int .i64 (f (k * 5 + 4))) := HR.at (k * 5) 4 (by omega)
      have hk6 : (k : Int) < 6 := by omega
      have HBA := Lib.hid (hP.out.2.alloc hP.out.2.size (.cells #[.int .i64 (f (k * 5)), .int .i64 (f (k * 5 + 1)), .int .i64 (f (k * 5 + 2)), .int .i64 (f (k * 5 + 3)), .int .i64 (f (k * 5 + 4))] 77))
      clear HR
      go_wp2
      go_loopw [17] (fun i wi => ∃ j : Nat, i = .int .i64 j ∧ j ≤ 5 ∧ Hid ((∀ m, m < k * 5 + j → f m ≠ x) ∧ Below w.heap.size w wi)) (fun i _ => 5 - (intOf i).toNat)
      case atStart => exact ⟨0, rfl, by omega, Lib.hid ⟨fun m h => hP.out.1 m (by omega), HBA.out⟩⟩
      case round =>
        obtain ⟨j, rfl, hj, hI⟩ := hrel
        by_cases hlt2 : j < 5
        · obtain ⟨b, hbe⟩ : ∃ b, (f (k * 5 + j) == x) = b := ⟨_, rfl⟩
          have HBE := Lib.hid hbe
          clear hbe
          cases b
          · have HN2 : Hid (∀ m, m < k * 5 + (j + 1) → f m ≠ x) := Lib.hid (fun m hm e => by
              by_cases h9 : m = k * 5 + j
              · subst h9
                have := HBE.out
                rw [e] at this
                simp at this
              · exact hI.out.1 m (by omega) e)
            have e9 := HBE.out
            go_wp2_with (refine wpList_index5 rfl _ _ rfl (fun q => f (k * 5 + q)) j hlt2 rfl rfl ?_)
            go_roundw
            case rel => exact ⟨j + 1, by go_num, by omega, Lib.hid ⟨HN2.out, hI.out.2⟩⟩
            case measure => simp only [intOf]; omega
          · have e9 := HBE.out
            have HY : Hid (f (k * 5 + j) = x) := Lib.hid (by simpa using HBE.out)
            go_wp2_with (refine wpList_index5 rfl _ _ rfl (fun q => f (k * 5 + q)) j hlt2 rfl rfl ?_)
            go_ret
            exact ⟨true, rfl, ⟨fun _ => ⟨_, by omega, HY.out⟩, fun _ => rfl⟩, hI.out.2⟩
        · obtain rfl : j = 5 := by omega
          have HN2 : Hid ((∀ m, m < (k + 1) * 5 → f m ≠ x) ∧ Below w.heap.size w wr) := Lib.hid ⟨fun m h => hI.out.1 m (by omega), hI.out.2⟩
          go_wp2
          go_roundw
          case rel => exact ⟨k + 1, by go_num, by omega, HN2⟩
          case measure => simp only [intOf]; omega
    · obtain rfl : k = 6 := by omega
      have HE : Hid (¬ ∃ m, m < 30 ∧ f m = x) := Lib.hid (fun ⟨m, h1, h2⟩ => hP.out.1 m (by omega) h2)
      go_wp2
      go_ret
      exact ⟨false, rfl, ⟨fun h => (by cases h), fun h => absurd h HE.out⟩, hP.out.2⟩
end Go.Proofs.YtgehpaojbnpbcaaGreatDoor
namespace Go.Proofs.YtgehpaojbnpbcaaGreatDoor
open Go Go.RowKit
theorem ext_byte {names : ByteArray} {k : Nat} (h : k < names.size) : names.extract k (k + 1) = ⟨#[names[k]'h]⟩ := by
  have h1 : k < names.data.toList.length := by rw [Array.length_toList]; exact h
  rw [ext_one h]
  unfold nmK
  rw [if_neg (by omega), Int.toNat_natCast, List.getElem?_eq_getElem h1, Option.getD_some]
  rfl
set_option maxRecDepth 100000 in
set_option maxHeartbeats 4000000 in
theorem isNaming_any (names : ByteArray) (hs : names.size ≤ 1048576) (n : Nat) (w : World) :
    Calls Tryz.prog 76 #[.string names, .int .i64 (n : Int)] w fun e w' => ∃ b : Bool, e = .returned (.bool b) ∧ (b = true ↔ Naming names n) ∧ w' = w := by
  have hlen : names.data.toList.length = names.size := by rw [Array.length_toList]; rfl
  have HL := Lib.hid hlen
  clear hlen
  by_cases hn : names.size = n
  · have e1 : ((names.size : Int) != (n : Int)) = false := by simp [hn]
    have e2 : ((names.size : Int) == (n : Int)) = true := by simp [hn]
    have HN := Lib.hid hn
    clear hn
    go_enter Tryz.func76, Tryz.ntmps76
    go_wp2
    go_loopw [13] (fun i wr => ∃ k : Nat, i = .int .i64 k ∧ k ≤ names.size ∧ wr = w ∧ Hid (∀ (j : Nat) (b : UInt8), j < k → names.data.toList[j]? = some b → 97 ≤ b.toNat ∧ b.toNat ≤ 121)) (fun i _ => names.size - (intOf i).toNat)
    case atStart => exact ⟨0, rfl, Nat.zero_le _, rfl, Lib.hid (fun j b h => by omega)⟩
    case round =>
      obtain ⟨k, rfl, hk, rfl, hP⟩ := hrel
      by_cases hkl : k < names.size
      · have hkl' : k < names.data.toList.length := by rw [HL.out]; exact hkl
        have hsk : names.data.toList[k]'hkl' = names[k]'hkl := rfl
        have hext := ext_byte hkl
        obtain ⟨c, hce⟩ : ∃ c, names[k]'hkl = c := ⟨_, rfl⟩
        rw [hce] at hext
        have HCC : Hid (names.data.toList[k]? = some c) := Lib.hid (by rw [List.getElem?_eq_getElem hkl', hsk, hce])
        have hwr : IntKind.i64.wrap ((k : Int) + 1) = (k : Int) + 1 := wrap_small _ (by omega) (by omega)
        have hn1 : (k : Int) + 1 ≤ (names.size : Int) := by omega
        have hn2 : (k : Int) ≤ (k : Int) + 1 := by omega
        have hn3 : (0 : Int) ≤ (k : Int) := by omega
        have ht1 : ((k : Int) + 1).toNat = k + 1 := by omega
        obtain ⟨q, hq⟩ : ∃ q, nameB ⟨#[c]⟩ = q := ⟨_, rfl⟩
        have HQ := Lib.hid hq
        have CA := Lib.hid (fun W => isName_any ⟨#[c]⟩ W)
        rw [hq] at CA
        clear hq hsk hce
        go_wp2_with fail
        refine (CA.out _).mono ?_
        rintro e w3 ⟨rfl, rfl⟩
        cases q
        · have HB : Hid (¬ Naming names n) := Lib.hid (fun h => by
            have h1 := h.2 c (List.mem_of_getElem? HCC.out)
            have h2 := nameB_byte h1.1 (by omega)
            have h3 := HQ.out
            rw [h2] at h3
            cases h3)
          go_wp2
          go_ret
          exact ⟨false, rfl, ⟨fun h => (by cases h), fun h => absurd h HB.out⟩, rfl⟩
        · obtain ⟨q2, hq2⟩ : ∃ q2, (c == 122) = q2 := ⟨_, rfl⟩
          have HQ2 : Hid (q2 = true ↔ c = 122) := Lib.hid (by rw [← hq2]; simp)
          cases q2
          · have HP2 : Hid (∀ (j : Nat) (b : UInt8), j < k + 1 → names.data.toList[j]? = some b → 97 ≤ b.toNat ∧ b.toNat ≤ 121) := Lib.hid (fun j b hj hb => by
              by_cases e : j = k
              · subst e
                rw [HCC.out] at hb
                cases hb
                have h2 := HQ.out
                have h3 : c ≠ 122 := fun e => by have := HQ2.out.2 e; cases this
                have h4 : c.toNat ≠ 122 := fun e => h3 (UInt8.toNat_inj.1 e)
                unfold nameB inB at h2
                simp at h2
                omega
              · exact hP.out j b (by omega) hb)
            go_wp2
            go_roundw
            case rel => exact ⟨k + 1, by go_num, by omega, by first | rfl | trivial, HP2⟩
            case measure => simp only [intOf]; omega
          · have HB : Hid (¬ Naming names n) := Lib.hid (fun h => by
              have h1 := h.2 c (List.mem_of_getElem? HCC.out)
              have h2 := HQ2.out.1 rfl
              subst h2
              have : (122 : UInt8).toNat = 122 := rfl
              omega)
            go_wp2
            go_ret
            exact ⟨false, rfl, ⟨fun h => (by cases h), fun h => absurd h HB.out⟩, rfl⟩
      · obtain rfl : k = names.size := by omega
        have HY : Hid (Naming names n) := Lib.hid ⟨HN.out, fun b hb => by
          obtain ⟨j, hj⟩ := List.mem_iff_getElem?.1 hb
          have hjl := (List.getElem?_eq_some_iff.1 hj).1
          exact hP.out j b (by have := HL.out; omega) hj⟩
        go_wp2
        go_ret
        exact ⟨true, rfl, ⟨fun _ => HY.out, fun _ => rfl⟩, rfl⟩
  · have e1 : ((names.size : Int) != (n : Int)) = true := by simp; omega
    have e2 : ((names.size : Int) == (n : Int)) = false := by simp; omega
    go_enter Tryz.func76, Tryz.ntmps76
    go_wp2
    go_ret
    exact ⟨false, rfl, ⟨fun h => (by cases h), fun h => absurd h.1 hn⟩, rfl⟩
set_option maxRecDepth 100000 in
theorem renaming_any {ss : List Sc} {names : ByteArray} (hok : nmgOk ss names) {w : World} {G o : Nat} (hG : TblAt w G o (tabF ss)) :
    Calls Tryz.prog 78 #[.pointer (some ⟨G, o, none⟩), .string names] w fun e w' => ∃ u, e = .returned u ∧ RenOn ss w' u (nmgF ss names) ∧ Below w.heap.size w w' := by
  have hb := ((Below.refl w.heap.size w).alloc (Nat.le_refl _) (.cells #[.pointer (some ⟨G, o, none⟩)] 164)).alloc (by simp) (.cells #[.string names] 9)
  have R1 := Lib.hid ((Row.new w [.pointer (some ⟨G, o, none⟩)] 164).alloc (.cells #[.string names] 9))
  have R2 := Lib.hid (Row.new (w.alloc (.cells #[.pointer (some ⟨G, o, none⟩)] 164)) [.string names] 9)
  have HB := Lib.hid hb
  have HG := Lib.hid (hG.below hb hG.lt)
  have HOK := Lib.hid hok
  clear hb hG hok
  go_enter Tryz.func78, Tryz.ntmps78
  go_wp2
  go_ret
  refine ⟨_, rfl, ⟨_, _, rfl, enters_of Tryz.func105 (by kernel_rfl) rfl, fun i j s x W hs hx hW => ?_⟩, HB.out⟩
  have hv := HOK.out.1.1
  have hi := (List.getElem?_eq_some_iff.1 hs).1
  have hj := (List.getElem?_eq_some_iff.1 hx).1
  have h6 := hv.count.2
  have h5 := hv.five s (List.mem_of_getElem? hs)
  have hq := placed_of hs hx
  have hcl := HOK.out.1.2 _ hq
  have hdc := mean_dcl hv hq
  have hsz := HOK.out.2.1
  have h30 : names.size ≤ 30 := by
    have h1 := plsOf_length 1 (placed 0 ss)
    have h2 := placed_bound 0 ss 6 5 hv.count.2 hv.five
    unfold dclP plsP at hsz
    omega
  refine rnm1_any i j _ _ (by omega) (by omega) (tabF ss) names x.name (nmgF ss names i j x.name) W (HG.out.below hW HG.out.lt) (R1.out.below hW R1.out.lt) ((by have h := R2.out; rw [World.size_alloc] at h; exact h : Row _ (w.heap.size + 1) 9 _).below hW (by simp)) ?_ (by omega)
  have e1 : (i * 5 + j) / 5 = i := by omega
  have e2 : (i * 5 + j) % 5 = j := by omega
  unfold tabF tabT nmgF
  rw [e1, e2, meanAt_of hq]
  cases hm : meanIt ss (i, j, x) with
  | nil => exact .inl ⟨rfl, rfl⟩
  | cons d r =>
    cases r with
    | cons d2 r2 => rw [hm] at hcl; simp at hcl
    | nil =>
      rw [hm] at hdc
      have hp0 := posOf_mem (hdc d (by simp))
      have hr := posOf_range (dclP ss) d
      have hk : (posOf (dclP ss) d).toNat < names.size := by omega
      have hb := HOK.out.2.2 (names[(posOf (dclP ss) d).toNat]'hk) (List.getElem_mem (l := names.data.toList) (by rw [Array.length_toList]; exact hk))
      refine .inr ⟨(posOf (dclP ss) d).toNat, ?_, hk, hb.1, by omega, ?_⟩
      · show posOf (dclP ss) d + 1 = _
        omega
      · show nmK names (posOf (dclP ss) d) = _
        rw [← ext_byte hk, ext_one hk]
        congr 1
        omega
end Go.Proofs.YtgehpaojbnpbcaaGreatDoor
namespace Go.Proofs.YtgehpaojbnpbcaaGreatDoor
open Go Go.RowKit
theorem sizeInt3 (W : World) : (sizeOf 3).run Tryz.prog W = .ok 1 W := by kernel_rfl
theorem size5 (W : World) : (sizeOf 77).run Tryz.prog W = .ok 5 W := by kernel_rfl
theorem eqInt (d : Nat) (a b : Int) (W : World) : (Op.equalIn (d + 1) 3 (.int .i64 a) (.int .i64 b)).run Tryz.prog W = .ok (a == b) W := by
  rw [Op.equalIn]
  simp only [Sem.run_bind, run_underlying Tryz.underlying3, Result.andThen_ok]
  simp
theorem part5 (c : Nat → Int) (W : World) : (part 3 #[.int .i64 (c 0), .int .i64 (c 1), .int .i64 (c 2), .int .i64 (c 3), .int .i64 (c 4)] 0).run Tryz.prog W = .ok (.int .i64 (c 0)) W ∧ (part 3 #[.int .i64 (c 0), .int .i64 (c 1), .int .i64 (c 2), .int .i64 (c 3), .int .i64 (c 4)] 1).run Tryz.prog W = .ok (.int .i64 (c 1)) W ∧ (part 3 #[.int .i64 (c 0), .int .i64 (c 1), .int .i64 (c 2), .int .i64 (c 3), .int .i64 (c 4)] 2).run Tryz.prog W = .ok (.int .i64 (c 2)) W ∧ (part 3 #[.int .i64 (c 0), .int .i64 (c 1), .int .i64 (c 2), .int .i64 (c 3), .int .i64 (c 4)] 3).run Tryz.prog W = .ok (.int .i64 (c 3)) W ∧ (part 3 #[.int .i64 (c 0), .int .i64 (c 1), .int .i64 (c 2), .int .i64 (c 3), .int .i64 (c 4)] 4).run Tryz.prog W = .ok (.int .i64 (c 4)) W := by
  refine ⟨?_, ?_, ?_, ?_, ?_⟩ <;> kernel_rfl
theorem eq5_run (d : Nat) (c e : Nat → Int) (W : World) : (Op.equalIn (d + 2) 77 (.agg #[.int .i64 (c 0), .int .i64 (c 1), .int .i64 (c 2), .int .i64 (c 3), .int .i64 (c 4)]) (.agg #[.int .i64 (e 0), .int .i64 (e 1), .int .i64 (e 2), .int .i64 (e 3), .int .i64 (e 4)])).run Tryz.prog W =
    .ok (c 0 == e 0 && (c 1 == e 1 && (c 2 == e 2 && (c 3 == e 3 && c 4 == e 4)))) W := by
  obtain ⟨p0, p1, p2, p3, p4⟩ := part5 c W
  obtain ⟨q0, q1, q2, q3, q4⟩ := part5 e W
  rw [show d + 2 = (d + 1) + 1 from rfl, Op.equalIn]
  simp only [Sem.run_bind, run_underlying Tryz.underlying77, Result.andThen_ok, sizeInt3]
  simp only [Std.Legacy.Range.forIn_eq_forIn_range', Std.Legacy.Range.size, Nat.sub_zero, Nat.add_sub_cancel, Nat.div_one, List.range'_succ, List.range'_zero, List.forIn_cons, List.forIn_nil]
  have r0 := eqInt d (c 0) (e 0) W
  have r1 := eqInt d (c 1) (e 1) W
  have r2 := eqInt d (c 2) (e 2) W
  have r3 := eqInt d (c 3) (e 3) W
  have r4 := eqInt d (c 4) (e 4) W
  generalize (c 0 == e 0) = b0 at *
  generalize (c 1 == e 1) = b1 at *
  generalize (c 2 == e 2) = b2 at *
  generalize (c 3 == e 3) = b3 at *
  generalize (c 4 == e 4) = b4 at *
  simp only [Sem.run_bind, Nat.reduceMul, Nat.reduceAdd, p0, q0, Result.andThen_ok, r0]
  cases b0 <;> cases b1 <;> cases b2 <;> cases b3 <;> cases b4 <;> simp [p1, p2, p3, p4, q1, q2, q3, q4, r1, r2, r3, r4]
theorem partT0 (f : Nat → Int) (W : World) : (part 77 (tblL f).toArray 0).run Tryz.prog W = .ok (.agg #[.int .i64 (f 0), .int .i64 (f 1), .int .i64 (f 2), .int .i64 (f 3), .int .i64 (f 4)]) W := by kernel_rfl
theorem partT1 (f : Nat → Int) (W : World) : (part 77 (tblL f).toArray 5).run Tryz.prog W = .ok (.agg #[.int .i64 (f 5), .int .i64 (f 6), .int .i64 (f 7), .int .i64 (f 8), .int .i64 (f 9)]) W := by kernel_rfl
theorem partT2 (f : Nat → Int) (W : World) : (part 77 (tblL f).toArray 10).run Tryz.prog W = .ok (.agg #[.int .i64 (f 10), .int .i64 (f 11), .int .i64 (f 12), .int .i64 (f 13), .int .i64 (f 14)]) W := by kernel_rfl
theorem partT3 (f : Nat → Int) (W : World) : (part 77 (tblL f).toArray 15).run Tryz.prog W = .ok (.agg #[.int .i64 (f 15), .int .i64 (f 16), .int .i64 (f 17), .int .i64 (f 18), .int .i64 (f 19)]) W := by kernel_rfl
theorem partT4 (f : Nat → Int) (W : World) : (part 77 (tblL f).toArray 20).run Tryz.prog W = .ok (.agg #[.int .i64 (f 20), .int .i64 (f 21), .int .i64 (f 22), .int .i64 (f 23), .int .i64 (f 24)]) W := by kernel_rfl
theorem partT5 (f : Nat → Int) (W : World) : (part 77 (tblL f).toArray 25).run Tryz.prog W = .ok (.agg #[.int .i64 (f 25), .int .i64 (f 26), .int .i64 (f 27), .int .i64 (f 28), .int .i64 (f 29)]) W := by kernel_rfl
theorem eqR0 (d : Nat) (f g : Nat → Int) (W : World) : (Op.equalIn (d + 2) 77 (.agg #[.int .i64 (f 0), .int .i64 (f 1), .int .i64 (f 2), .int .i64 (f 3), .int .i64 (f 4)]) (.agg #[.int .i64 (g 0), .int .i64 (g 1), .int .i64 (g 2), .int .i64 (g 3), .int .i64 (g 4)])).run Tryz.prog W = .ok (f 0 == g 0 && (f 1 == g 1 && (f 2 == g 2 && (f 3 == g 3 && f 4 == g 4)))) W := eq5_run d (fun q => f (0 + q)) (fun q => g (0 + q)) W
theorem eqR1 (d : Nat) (f g : Nat → Int) (W : World) : (Op.equalIn (d + 2) 77 (.agg #[.int .i64 (f 5), .int .i64 (f 6), .int .i64 (f 7), .int .i64 (f 8), .int .i64 (f 9)]) (.agg #[.int .i64 (g 5), .int .i64 (g 6), .int .i64 (g 7), .int .i64 (g 8), .int .i64 (g 9)])).run Tryz.prog W = .ok (f 5 == g 5 && (f 6 == g 6 && (f 7 == g 7 && (f 8 == g 8 && f 9 == g 9)))) W := eq5_run d (fun q => f (5 + q)) (fun q => g (5 + q)) W
theorem eqR2 (d : Nat) (f g : Nat → Int) (W : World) : (Op.equalIn (d + 2) 77 (.agg #[.int .i64 (f 10), .int .i64 (f 11), .int .i64 (f 12), .int .i64 (f 13), .int .i64 (f 14)]) (.agg #[.int .i64 (g 10), .int .i64 (g 11), .int .i64 (g 12), .int .i64 (g 13), .int .i64 (g 14)])).run Tryz.prog W = .ok (f 10 == g 10 && (f 11 == g 11 && (f 12 == g 12 && (f 13 == g 13 && f 14 == g 14)))) W := eq5_run d (fun q => f (10 + q)) (fun q => g (10 + q)) W
theorem eqR3 (d : Nat) (f g : Nat → Int) (W : World) : (Op.equalIn (d + 2) 77 (.agg #[.int .i64 (f 15), .int .i64 (f 16), .int .i64 (f 17), .int .i64 (f 18), .int .i64 (f 19)]) (.agg #[.int .i64 (g 15), .int .i64 (g 16), .int .i64 (g 17), .int .i64 (g 18), .int .i64 (g 19)])).run Tryz.prog W = .ok (f 15 == g 15 && (f 16 == g 16 && (f 17 == g 17 && (f 18 == g 18 && f 19 == g 19)))) W := eq5_run d (fun q => f (15 + q)) (fun q => g (15 + q)) W
theorem eqR4 (d : Nat) (f g : Nat → Int) (W : World) : (Op.equalIn (d + 2) 77 (.agg #[.int .i64 (f 20), .int .i64 (f 21), .int .i64 (f 22), .int .i64 (f 23), .int .i64 (f 24)]) (.agg #[.int .i64 (g 20), .int .i64 (g 21), .int .i64 (g 22), .int .i64 (g 23), .int .i64 (g 24)])).run Tryz.prog W = .ok (f 20 == g 20 && (f 21 == g 21 && (f 22 == g 22 && (f 23 == g 23 && f 24 == g 24)))) W := eq5_run d (fun q => f (20 + q)) (fun q => g (20 + q)) W
theorem eqR5 (d : Nat) (f g : Nat → Int) (W : World) : (Op.equalIn (d + 2) 77 (.agg #[.int .i64 (f 25), .int .i64 (f 26), .int .i64 (f 27), .int .i64 (f 28), .int .i64 (f 29)]) (.agg #[.int .i64 (g 25), .int .i64 (g 26), .int .i64 (g 27), .int .i64 (g 28), .int .i64 (g 29)])).run Tryz.prog W = .ok (f 25 == g 25 && (f 26 == g 26 && (f 27 == g 27 && (f 28 == g 28 && f 29 == g 29)))) W := eq5_run d (fun q => f (25 + q)) (fun q => g (25 + q)) W
theorem eqT_run (d : Nat) (f g : Nat → Int) (W : World) : ∃ b, (Op.equalIn (d + 3) 79 (.agg (tblL f).toArray) (.agg (tblL g).toArray)).run Tryz.prog W = .ok b W ∧ (b = true ↔ ∀ k, k < 30 → f k = g k) := by
  have r0 := eqR0 d f g W
  have r1 := eqR1 d f g W
  have r2 := eqR2 d f g W
  have r3 := eqR3 d f g W
  have r4 := eqR4 d f g W
  have r5 := eqR5 d f g W
  obtain ⟨b0, hb0⟩ : ∃ b, (f 0 == g 0 && (f 1 == g 1 && (f 2 == g 2 && (f 3 == g 3 && f 4 == g 4)))) = b := ⟨_, rfl⟩
  obtain ⟨b1, hb1⟩ : ∃ b, (f 5 == g 5 && (f 6 == g 6 && (f 7 == g 7 && (f 8 == g 8 && f 9 == g 9)))) = b := ⟨_, rfl⟩
  obtain ⟨b2, hb2⟩ : ∃ b, (f 10 == g 10 && (f 11 == g 11 && (f 12 == g 12 && (f 13 == g 13 && f 14 == g 14)))) = b := ⟨_, rfl⟩
  obtain ⟨b3, hb3⟩ : ∃ b, (f 15 == g 15 && (f 16 == g 16 && (f 17 == g 17 && (f 18 == g 18 && f 19 == g 19)))) = b := ⟨_, rfl⟩
  obtain ⟨b4, hb4⟩ : ∃ b, (f 20 == g 20 && (f 21 == g 21 && (f 22 == g 22 && (f 23 == g 23 && f 24 == g 24)))) = b := ⟨_, rfl⟩
  obtain ⟨b5, hb5⟩ : ∃ b, (f 25 == g 25 && (f 26 == g 26 && (f 27 == g 27 && (f 28 == g 28 && f 29 == g 29)))) = b := ⟨_, rfl⟩
  rw [hb0] at r0
  rw [hb1] at r1
  rw [hb2] at r2
  rw [hb3] at r3
  rw [hb4] at r4
  rw [hb5] at r5
  refine ⟨b0 && (b1 && (b2 && (b3 && (b4 && b5)))), ?_, ?_⟩
  · rw [show d + 3 = (d + 2) + 1 from rfl, Op.equalIn]
    simp only [Sem.run_bind, run_underlying Tryz.underlying79, Result.andThen_ok, size5]
    simp only [Std.Legacy.Range.forIn_eq_forIn_range', Std.Legacy.Range.size, Nat.sub_zero, Nat.add_sub_cancel, Nat.div_one, List.range'_succ, List.range'_zero, List.forIn_cons, List.forIn_nil]
    simp only [Sem.run_bind, Nat.reduceMul, Nat.reduceAdd, partT0, Result.andThen_ok, r0]
    clear hb0 hb1 hb2 hb3 hb4 hb5
    cases b0 <;> cases b1 <;> cases b2 <;> cases b3 <;> cases b4 <;> cases b5 <;> simp [partT1, partT2, partT3, partT4, partT5, r1, r2, r3, r4, r5]
  · rw [← hb0, ← hb1, ← hb2, ← hb3, ← hb4, ← hb5]
    simp only [Bool.and_eq_true, beq_iff_eq]
    constructor
    · intro h k hk
      have hc : k = 0 ∨ k = 1 ∨ k = 2 ∨ k = 3 ∨ k = 4 ∨ k = 5 ∨ k = 6 ∨ k = 7 ∨ k = 8 ∨ k = 9 ∨ k = 10 ∨ k = 11 ∨ k = 12 ∨ k = 13 ∨ k = 14 ∨ k = 15 ∨ k = 16 ∨ k = 17 ∨ k = 18 ∨ k = 19 ∨ k = 20 ∨ k = 21 ∨ k = 22 ∨ k = 23 ∨ k = 24 ∨ k = 25 ∨ k = 26 ∨ k = 27 ∨ k = 28 ∨ k = 29 := by omega
      rcases hc with rfl | rfl | rfl | rfl | rfl | rfl | rfl | rfl | rfl | rfl | rfl | rfl | rfl | rfl | rfl | rfl | rfl | rfl | rfl | rfl | rfl | rfl | rfl | rfl | rfl | rfl | rfl | rfl | rfl | rfl <;> simp [h]
    · intro h
      simp [h]
end Go.Proofs.YtgehpaojbnpbcaaGreatDoor
