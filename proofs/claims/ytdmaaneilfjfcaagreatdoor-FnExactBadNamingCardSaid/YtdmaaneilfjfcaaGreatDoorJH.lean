/-
  The walk of impl's (*resolution).bindings: the table of which declaration each item means alone. Condition: the resolution lies in memory. The walks of impl's (*bindingTable).has, (*bindingTable).renaming with its closure, and isNaming. Conditions: the table lies in memory; the names are as many as the table tells. The walks of impl's (*tree).ownNames and OwnNames. Conditions: the argument's memory holds the graph; the package-level errors hold errors. The walks of impl's isNaming, (*bindingTable).renaming, withNames and NamedGraph. Conditions: the argument's memory holds the graph; the package-level errors hold errors. The walks of impl's withNames and NamedGraph. Conditions: the argument's memory holds the graph; the package-level errors hold errors. (gennmgi.py writes this text.)
-/
import Derived.Test.YtdmaaneilfjfcaaGreatDoorJF
import Derived.Test.YtdmaaneilfjfcaaGreatDoorWUsrI
import Derived.Test.YtdmaaneilfjfcaaGreatDoorWTabl
import Derived.Test.YtdmaaneilfjfcaaGreatDoorPSet
import Derived.BigQuiet
import Derived.Test.YtdmaaneilfjfcaaGreatDoorWSwapI
import Derived.Test.YtdmaaneilfjfcaaGreatDoorJG
import Derived.Test.YtdmaaneilfjfcaaGreatDoorJE
namespace Go.Proofs.YtdmaaneilfjfcaaGreatDoor
open Go Go.RowKit Go.Maps
attribute [local go_sem] Oper.semAt_some
/-- The cells of a table of numbers: place (i, j) in cell i * 5 + j. -/
def tblL (f : Nat → Int) : List Value := (List.range 30).map fun k => .int .i64 (f k)
theorem tblL_length (f : Nat → Int) : (tblL f).length = 30 := by simp [tblL]
theorem tblL_get (f : Nat → Int) {k : Nat} (hk : k < 30) : (tblL f)[k]? = some (.int .i64 (f k)) := by
  unfold tblL
  rw [List.getElem?_map, List.getElem?_range hk]
  rfl
theorem tblL_congr {f g : Nat → Int} (h : ∀ k, k < 30 → f k = g k) : tblL f = tblL g := by
  unfold tblL
  exact List.map_congr_left fun k hk => by rw [h k (List.mem_range.1 hk)]
theorem tblL_set (f : Nat → Int) (k : Nat) (x : Int) : (tblL f).set k (.int .i64 x) = tblL fun i => if i = k then x else f i := by
  apply List.ext_getElem?
  intro i
  rw [List.getElem?_set]
  by_cases hi : i < 30
  · rw [tblL_get _ hi, tblL_get _ hi, tblL_length]
    by_cases hk : k = i
    · subst hk
      simp [hi]
    · rw [if_neg hk, if_neg (fun e => hk e.symm)]
  · have h1 : (tblL f)[i]? = none := List.getElem?_eq_none (by rw [tblL_length]; omega)
    have h2 : (tblL fun i => if i = k then x else f i)[i]? = none := List.getElem?_eq_none (by rw [tblL_length]; omega)
    rw [h1, h2, tblL_length]
    by_cases hk : k = i
    · rw [if_pos hk, if_neg (by omega)]
    · rw [if_neg hk]
theorem tblL_one (f : Nat → Int) : (tblL f).toArray.all (·.oneCell') = true := by
  have h : ∀ v ∈ tblL f, v.oneCell' = true := by
    intro v hv
    unfold tblL at hv
    obtain ⟨k, _, rfl⟩ := List.mem_map.1 hv
    rfl
  rw [Array.all_eq_true]
  intro i hi
  have h1 := h _ (List.getElem_mem (l := tblL f) (n := i) (by simpa using hi))
  simpa using h1
theorem tblL_info (f : Nat → Int) : (Tryz.prog.info? 142).map (·.size) = some (tblL f).toArray.size := by
  rw [List.size_toArray, tblL_length]
  kernel_rfl
def tabF (ss : List Sc) (k : Nat) : Int := tabT ss (k / 5) (k % 5)
/-- What the map of numbers tells: the places of a list, counted from 1 on. -/
structure NumIs (D : DataW Unit) (dl : List (Int × Int)) : Prop where
  has : ∀ a b, (Lit.int .i64 a).wf = true → (Lit.int .i64 b).wf = true → (Maps.has D (plLit a b) = true ↔ (a, b) ∈ dl)
  look : ∀ (k : Nat) (p : Int × Int), dl[k]? = some p → ∀ z, D.atKey (plLit p.1 p.2) z = .lit (.int .i64 ((k : Int) + 1))
  size : Maps.size D = dl.length
  small : ∀ p ∈ dl, (Lit.int .i64 p.1).wf = true ∧ (Lit.int .i64 p.2).wf = true
def NumW (w : World) (M n : Nat) (dl : List (Int × Int)) : Prop := ∃ D : DataW Unit, w.ownsMap Tryz.prog 32 (plainElem Tryz.prog 3) M n D ∧ NumIs D dl
theorem NumW.lt {w : World} {M n : Nat} {dl : List (Int × Int)} (h : NumW w M n dl) : M < w.heap.size := by
  obtain ⟨D, h1, _⟩ := h
  exact h1.lt
theorem NumW.same {w w' : World} {M n : Nat} {dl : List (Int × Int)} (h : NumW w M n dl) (hs : w'.heap[M]? = w.heap[M]?) : NumW w' M n dl := by
  obtain ⟨D, h1, h2⟩ := h
  exact ⟨D, ownsMap_same h1 hs, h2⟩
theorem num_nil {w : World} {M : Nat} (h : w.ownsMap (H := Unit) Tryz.prog 32 (plainElem Tryz.prog 3) M 0 (.map [])) : NumW w M 0 [] :=
  ⟨.map [], h, fun a b _ _ => by rw [has_nil]; simp, fun k p hk => by simp at hk, rfl, fun p hp => by cases hp⟩
theorem num_put {w : World} {M n : Nat} {D : DataW Unit} (h1 : w.ownsMap Tryz.prog 32 (plainElem Tryz.prog 3) M n D) (hn : n < 100000) {a b : Int} (ha : (Lit.int .i64 a).wf = true) (hb : (Lit.int .i64 b).wf = true) :
    (∀ ty, (Builtin.len_ #[90] ty #[.map (some M)]).run Tryz.prog w = .ok (.int .i64 (Maps.size D : Int)) w) ∧ Maps.size D ≤ n ∧ ∃ w', (Instr.mapUpdate 90 (.map (some M)) (.agg #[.int .i64 a, .int .i64 b]) (.int .i64 ((Maps.size D : Int) + 1))).run Tryz.prog w = .ok () w' ∧ w'.ownsMap Tryz.prog 32 (plainElem Tryz.prog 3) M (n + 1) (D.put (plLit a b) (.lit (.int .i64 ((Maps.size D : Int) + 1)))) ∧ w.grownBy w' (some M) := by
  have hle := h1.size_le
  exact ⟨fun ty => h1.len (t := 90) (e := 3) Tryz.underlying90 ty, hle, h1.update (t := 90) (e := 3) placeLaw Tryz.underlying90 (by unfold maxLen; omega) (pl_key ha hb) (plainElem_int (H := Unit) Tryz.underlying3 (a := (Maps.size D : Int) + 1) (WalkArith.wf_i64 (by omega)))⟩
theorem NumIs.put {w : World} {M n : Nat} {D : DataW Unit} {dl : List (Int × Int)} (h1 : w.ownsMap Tryz.prog 32 (plainElem Tryz.prog 3) M n D) (h2 : NumIs D dl) {a b : Int} (ha : (Lit.int .i64 a).wf = true) (hb : (Lit.int .i64 b).wf = true) (hnew : (a, b) ∉ dl) :
    NumIs (D.put (plLit a b) (.lit (.int .i64 ((Maps.size D : Int) + 1)))) (dl ++ [(a, b)]) := by
  have hkey : ∀ c d, (Lit.int .i64 c).wf = true → (Lit.int .i64 d).wf = true → (c, d) ≠ (a, b) → plLit c d ≠ plLit a b := fun c d hc hd hne e => by
    obtain ⟨e1, e2⟩ := plLit_inj hc hd ha hb e
    exact hne (by rw [e1, e2])
  refine ⟨fun c d hc hd => ?_, fun k p hk z => ?_, ?_, fun p hp => ?_⟩
  · by_cases he : (c, d) = (a, b)
    · cases he
      rw [Maps.has_put_same h1.isMap (plLit_is _ _)]
      simp
    · rw [Maps.has_put_other (hkey c d hc hd he), h2.has c d hc hd]
      simp [he]
  · by_cases hlt : k < dl.length
    · rw [List.getElem?_append_left hlt] at hk
      have hm := List.mem_of_getElem? hk
      have hw := h2.small _ hm
      have hne : p ≠ (a, b) := fun e => hnew (e ▸ hm)
      rw [Maps.atKey_put_other (hkey p.1 p.2 hw.1 hw.2 hne)]
      exact h2.look k p hk z
    · obtain rfl : k = dl.length := by
        have := (List.getElem?_eq_some_iff.1 hk).1
        simp at this
        omega
      rw [List.getElem?_append_right (Nat.le_refl _), Nat.sub_self] at hk
      cases hk
      rw [h2.size]
      exact Maps.atKey_put_same h1.isMap (plLit_is _ _) _ _
  · rw [Maps.size_put (h1.tidy placeLaw), if_neg (fun e => hnew ((h2.has a b ha hb).1 e)), h2.size, List.length_append, List.length_singleton]
  · rcases List.mem_append.1 hp with h | h
    · exact h2.small p h
    · rw [List.mem_singleton] at h
      subst h
      exact ⟨ha, hb⟩
theorem num_look {w : World} {M n : Nat} {dl : List (Int × Int)} (h : NumW w M n dl) {k : Nat} {a b : Int} (hk : dl[k]? = some (a, b)) :
    (Instr.lookup 90 (.map (some M)) (.agg #[.int .i64 a, .int .i64 b]) false).run Tryz.prog w = .ok (.int .i64 ((k : Int) + 1)) w := by
  obtain ⟨D, h1, h2⟩ := h
  have hw := h2.small _ (List.mem_of_getElem? hk)
  obtain ⟨c, hrun, hat, -⟩ := h1.lookup_int (t := 90) (e := 3) (q := .i64) placeLaw Tryz.underlying90 Tryz.underlying3 (by kernel_rfl) (pl_key hw.1 hw.2)
  have h3 := h2.look k (a, b) hk (.lit (.int .i64 0))
  rw [hat] at h3
  simp only [DataW.lit.injEq, Lit.int.injEq, true_and] at h3
  rw [h3] at hrun
  exact hrun
theorem cells_num {w w' : World} {M n : Nat} {D : DataW Unit} (h : w.ownsMap Tryz.prog 32 (plainElem Tryz.prog 3) M n D) (hg : w.grownBy w' (some M)) : CellsKept w.heap.size w w' := by
  obtain ⟨es, clock, h1, _⟩ := h
  exact ⟨hg.size, fun g vs t fr _ hh => by
    refine (hg.block g (Array.getElem?_eq_some_iff.1 hh).1 (fun e => ?_)).trans hh
    cases e
    rw [h1] at hh; cases hh⟩
/-- What holds of the map of numbers in the first loop: it tells the places of a list, where p. -/
def NumRun (w W0 : World) (M m : Nat) (p : Prop) (dl : List (Int × Int)) (W : World) : Prop := Below w.heap.size w W ∧ CellsKept W0.heap.size W0 W ∧ ∃ (n : Nat) (D : DataW Unit), n ≤ m ∧ W.ownsMap Tryz.prog 32 (plainElem Tryz.prog 3) M n D ∧ (p → NumIs D dl)
theorem numRun_own {w W0 : World} {M b : Nat} {α : Type} (m : α → Nat) (p : α → Prop) (dl : α → List (Int × Int)) (hb : M < b) (hw : w.heap.size ≤ b) : OwnFrom b (fun (s : α) W => NumRun w W0 M (m s) (p s) (dl s) W) := by
  rintro s A C row ⟨h1, h0, n, D, h2, h3, h4⟩ hg hr
  exact ⟨h1.trans (below_grown1' hg h1.size (fun r e => Nat.le_trans hw (hr r e).1)), h0.trans ((cells_of_grown hg (fun r e => (hr r e).2)).mono h0.size), n, D, h2, ownsMap_same h3 (hg.block M h3.lt (fun e => by have := (hr _ e.symm).1; omega)), h4⟩
theorem plsOf_new {ss : List Sc} {pre : List (El ss)} {x : El ss} (h : (pre.map Subtype.val) ++ [x.1] <+: placed 0 ss) : ((x.1.1 : Int), (x.1.2.1 : Int)) ∉ plsOf 1 (pre.map Subtype.val) := by
  intro hm
  unfold plsOf at hm
  obtain ⟨q, hq, he⟩ := List.mem_map.1 hm
  obtain ⟨hq1, -⟩ := List.mem_filter.1 hq
  have hn := (plOf_nodup ss)
  obtain ⟨t, ht⟩ := h
  rw [← ht, List.map_append, List.map_append] at hn
  have h1 := (List.nodup_append.1 (List.nodup_append.1 hn).1).2.2
  exact h1 _ (List.mem_map_of_mem (f := plOf) hq1) (plOf x.1) (by simp) he
/-- The table while some items are left. -/
def tabLeft (ss : List Sc) (left : Lit → Bool) (k : Nat) : Int := if left (plLit ((k / 5 : Nat) : Int) ((k % 5 : Nat) : Int)) = true then 0 else tabF ss k
theorem tabLeft_step {ss : List Sc} {left : Lit → Bool} {i j : Nat} (hi : i < 6) (hj : j < 5) : tblL (tabLeft ss fun z => left z && !z.sameKey (plLit (i : Int) (j : Int))) = (tblL (tabLeft ss left)).set (i * 5 + j) (.int .i64 (tabT ss i j)) := by
  rw [tblL_set]
  refine tblL_congr fun k hk => ?_
  unfold tabLeft
  by_cases h : k = i * 5 + j
  · subst h
    have e1 : (i * 5 + j) / 5 = i := by omega
    have e2 : (i * 5 + j) % 5 = j := by omega
    have hz : (left (plLit (i : Int) (j : Int)) && !(plLit (i : Int) (j : Int)).sameKey (plLit (i : Int) (j : Int))) = false := by rw [WideAt.sameKey_self (plLit_is _ _)]; simp
    rw [e1, e2, if_pos rfl]
    dsimp only
    simp only [hz, Bool.false_eq_true, if_false]
    unfold tabF
    rw [e1, e2]
  · rw [if_neg h]
    have h1 : (plLit ((k / 5 : Nat) : Int) ((k % 5 : Nat) : Int)).sameKey (plLit (i : Int) (j : Int)) = false := by
      cases hs : (plLit ((k / 5 : Nat) : Int) ((k % 5 : Nat) : Int)).sameKey (plLit (i : Int) (j : Int)) with
      | false => rfl
      | true =>
        exfalso
        obtain ⟨e1, e2⟩ := plLit_inj (wf_small (by omega)) (wf_small (by omega)) (wf_small (by omega)) (wf_small (by omega)) (WideAt.sameKey_eq hs)
        omega
    dsimp only
    simp only [h1, Bool.not_false, Bool.and_true]
theorem tabLeft_start {ss : List Sc} {le : List Ent} (hf : le.map Prod.fst = placed 0 ss) : (List.replicate 30 (.int .i64 0) : List Value) = tblL (tabLeft ss (Maps.has (entsD le))) := by
  have e : tblL (fun _ => 0) = tblL (tabLeft ss (Maps.has (entsD le))) := tblL_congr fun k _ => by
    unfold tabLeft
    by_cases h : Maps.has (entsD le) (plLit ((k / 5 : Nat) : Int) ((k % 5 : Nat) : Int)) = true
    · rw [if_pos h]
    · rw [if_neg h]
      unfold tabF tabT
      by_cases hm : meanAt ss ((k / 5 : Nat) : Int) ((k % 5 : Nat) : Int) = []
      · rw [hm]; rfl
      · exfalso
        obtain ⟨x, hq, -⟩ := mean_ofAt hm
        rw [← hf] at hq
        obtain ⟨e, he, hee⟩ := List.mem_map.1 hq
        apply h
        have h1 := (putInto_has entKey entVal entKey_is (entKey e) le (.map []) nilMap).2 (.inr ⟨e, he, rfl⟩)
        have h2 : entKey e = plLit ((k / 5 : Nat) : Int) ((k % 5 : Nat) : Int) := by
          unfold entKey
          rw [hee]
          rfl
        rw [h2] at h1
        exact h1
  rw [← e]
  rfl
theorem tabLeft_end {ss : List Sc} {left : Lit → Bool} (h : ∀ kl, left kl = false) : tblL (tabLeft ss left) = tblL (tabF ss) :=
  tblL_congr fun k _ => by unfold tabLeft; rw [h, if_neg (by decide)]
theorem tab_none {ss : List Sc} {i j : Nat} {x : It} (hq : (i, j, x) ∈ placed 0 ss) (h : (meanIt ss (i, j, x)).length = 0) : tabT ss i j = 0 := by
  unfold tabT
  rw [meanAt_of hq, List.length_eq_zero_iff.1 h]
  rfl
theorem tab_more {ss : List Sc} {i j : Nat} {x : It} (hq : (i, j, x) ∈ placed 0 ss) (h0 : (meanIt ss (i, j, x)).length ≠ 0) (h1 : (meanIt ss (i, j, x)).length ≠ 1) : tabT ss i j = -1 := by
  unfold tabT
  rw [meanAt_of hq]
  exact boundT_several.2 (by omega)
theorem tab_one {ss : List Sc} (hv : Valid ss) {i j : Nat} {x : It} (hq : (i, j, x) ∈ placed 0 ss) {p : Int × Int} (h : meanIt ss (i, j, x) = [p]) : ∃ k : Nat, (dclP ss)[k]? = some p ∧ tabT ss i j = (k : Int) + 1 ∧ k < 30 := by
  have hm := mean_dcl hv hq p (by rw [h]; simp)
  have h0 := posOf_mem hm
  have hr := posOf_range (dclP ss) p
  have h1 := plsOf_length 1 (placed 0 ss)
  have h2 := placed_bound 0 ss 6 5 hv.count.2 hv.five
  refine ⟨(posOf (dclP ss) p).toNat, posOf_get h0, ?_, ?_⟩
  · unfold tabT
    rw [meanAt_of hq, h]
    show posOf (dclP ss) p + 1 = _
    omega
  · unfold dclP plsP at hr ⊢
    omega
set_option maxRecDepth 100000 in
set_option maxHeartbeats 16000000 in
theorem bindings_any {ss : List Sc} (hv : Valid ss) {w : World} {B R T M1 M2 MR : Nat} {v : Value} {ds : List Nd} {le : List Ent} (hR : ResW w B R T M1 M2 MR v ds ss le) :
    Calls Tryz.prog 93 #[.pointer (some ⟨R, 0, none⟩)] w fun e w' => e = .returned (.agg (tblL (tabF ss)).toArray) ∧ Below w.heap.size w w' := by
  have hmm := @run_makeMap Tryz.prog
  have HR := Lib.hid hR
  have HV := Lib.hid hv
  have r0 := (((hR.box.alloc (.cells #[.int .i64 0, .int .i64 0, .int .i64 0, .int .i64 0, .int .i64 0, .int .i64 0, .int .i64 0, .int .i64 0, .int .i64 0, .int .i64 0, .int .i64 0, .int .i64 0, .int .i64 0, .int .i64 0, .int .i64 0, .int .i64 0, .int .i64 0, .int .i64 0, .int .i64 0, .int .i64 0, .int .i64 0, .int .i64 0, .int .i64 0, .int .i64 0, .int .i64 0, .int .i64 0, .int .i64 0, .int .i64 0, .int .i64 0, .int .i64 0] 142)).alloc (.map #[] 0)).alloc (.cells #[.map (some (w.heap.size + 1))] 90)).cell (i := 0) (v := .pointer (some ⟨T, 0, none⟩)) (by rfl)
  have hb3 : Below w.heap.size w (((w.alloc (.cells #[.int .i64 0, .int .i64 0, .int .i64 0, .int .i64 0, .int .i64 0, .int .i64 0, .int .i64 0, .int .i64 0, .int .i64 0, .int .i64 0, .int .i64 0, .int .i64 0, .int .i64 0, .int .i64 0, .int .i64 0, .int .i64 0, .int .i64 0, .int .i64 0, .int .i64 0, .int .i64 0, .int .i64 0, .int .i64 0, .int .i64 0, .int .i64 0, .int .i64 0, .int .i64 0, .int .i64 0, .int .i64 0, .int .i64 0, .int .i64 0] 142)).alloc (.map #[] 0)).alloc (.cells #[.map (some (w.heap.size + 1))] 90)) := (((Below.refl _ _).alloc (Nat.le_refl _) _).alloc (by simp) _).alloc (by simp; omega) _
  have HBA := Lib.hid (((Row.new w [.int .i64 0, .int .i64 0, .int .i64 0, .int .i64 0, .int .i64 0, .int .i64 0, .int .i64 0, .int .i64 0, .int .i64 0, .int .i64 0, .int .i64 0, .int .i64 0, .int .i64 0, .int .i64 0, .int .i64 0, .int .i64 0, .int .i64 0, .int .i64 0, .int .i64 0, .int .i64 0, .int .i64 0, .int .i64 0, .int .i64 0, .int .i64 0, .int .i64 0, .int .i64 0, .int .i64 0, .int .i64 0, .int .i64 0, .int .i64 0] 142).alloc (.map #[] 0)).alloc (.cells #[.map (some (w.heap.size + 1))] 90))
  have hBK := Row.new ((w.alloc (.cells #[.int .i64 0, .int .i64 0, .int .i64 0, .int .i64 0, .int .i64 0, .int .i64 0, .int .i64 0, .int .i64 0, .int .i64 0, .int .i64 0, .int .i64 0, .int .i64 0, .int .i64 0, .int .i64 0, .int .i64 0, .int .i64 0, .int .i64 0, .int .i64 0, .int .i64 0, .int .i64 0, .int .i64 0, .int .i64 0, .int .i64 0, .int .i64 0, .int .i64 0, .int .i64 0, .int .i64 0, .int .i64 0, .int .i64 0, .int .i64 0] 142)).alloc (.map #[] 0)) [.map (some (w.heap.size + 1))] 90
  rw [World.size_alloc, World.size_alloc] at hBK
  have HBK := Lib.hid hBK
  have hNW : NumW (((w.alloc (.cells #[.int .i64 0, .int .i64 0, .int .i64 0, .int .i64 0, .int .i64 0, .int .i64 0, .int .i64 0, .int .i64 0, .int .i64 0, .int .i64 0, .int .i64 0, .int .i64 0, .int .i64 0, .int .i64 0, .int .i64 0, .int .i64 0, .int .i64 0, .int .i64 0, .int .i64 0, .int .i64 0, .int .i64 0, .int .i64 0, .int .i64 0, .int .i64 0, .int .i64 0, .int .i64 0, .int .i64 0, .int .i64 0, .int .i64 0, .int .i64 0] 142)).alloc (.map #[] 0)).alloc (.cells #[.map (some (w.heap.size + 1))] 90)) (w.heap.size + 1) 0 [] := by
    have h := World.ownsMap_made (H := Unit) (w.alloc (.cells #[.int .i64 0, .int .i64 0, .int .i64 0, .int .i64 0, .int .i64 0, .int .i64 0, .int .i64 0, .int .i64 0, .int .i64 0, .int .i64 0, .int .i64 0, .int .i64 0, .int .i64 0, .int .i64 0, .int .i64 0, .int .i64 0, .int .i64 0, .int .i64 0, .int .i64 0, .int .i64 0, .int .i64 0, .int .i64 0, .int .i64 0, .int .i64 0, .int .i64 0, .int .i64 0, .int .i64 0, .int .i64 0, .int .i64 0, .int .i64 0] 142)) Tryz.prog 32 (plainElem Tryz.prog 3)
    rw [World.size_alloc] at h
    exact (num_nil h).same (((Below.refl _ _).alloc (Nat.le_refl _) _).block _ h.lt)
  have HNW := Lib.hid hNW
  have HB3 := Lib.hid hb3
  have HSZ3 : Hid ((((w.alloc (.cells #[.int .i64 0, .int .i64 0, .int .i64 0, .int .i64 0, .int .i64 0, .int .i64 0, .int .i64 0, .int .i64 0, .int .i64 0, .int .i64 0, .int .i64 0, .int .i64 0, .int .i64 0, .int .i64 0, .int .i64 0, .int .i64 0, .int .i64 0, .int .i64 0, .int .i64 0, .int .i64 0, .int .i64 0, .int .i64 0, .int .i64 0, .int .i64 0, .int .i64 0, .int .i64 0, .int .i64 0, .int .i64 0, .int .i64 0, .int .i64 0] 142)).alloc (.map #[] 0)).alloc (.cells #[.map (some (w.heap.size + 1))] 90)).heap.size = w.heap.size + 3) := Lib.hid (by simp)
  clear hR hv hb3 hBK hNW
  refine (callsIn_wide (n := 6)).1 ?_
  refine callsIn_of_wp_marks Tryz.func93 rfl trivial ?_ rfl
  simp only [Tryz.ntmps93, List.size_toArray, List.length_cons, List.length_nil, Nat.reduceAdd, Nat.reduceSub, Array.replicate_succ, Array.replicate_zero, List.push_toArray, List.append_toArray, List.nil_append, List.cons_append]
  gi_wp2_with fail
  refine ⟨trivial, ?_⟩
  gi_at_call 64
  generalize hW3 : (((w.alloc (.cells #[.int .i64 0, .int .i64 0, .int .i64 0, .int .i64 0, .int .i64 0, .int .i64 0, .int .i64 0, .int .i64 0, .int .i64 0, .int .i64 0, .int .i64 0, .int .i64 0, .int .i64 0, .int .i64 0, .int .i64 0, .int .i64 0, .int .i64 0, .int .i64 0, .int .i64 0, .int .i64 0, .int .i64 0, .int .i64 0, .int .i64 0, .int .i64 0, .int .i64 0, .int .i64 0, .int .i64 0, .int .i64 0, .int .i64 0, .int .i64 0] 142)).alloc (.map #[] 0)).alloc (.cells #[.map (some (w.heap.size + 1))] 90)) = W3 at *
  refine ((callsIn_wide (n := 5)).2 (all_any T _)).mono ?_
  rintro e w5 ⟨rfl, rfl⟩
  have bN := Boxed.new W3 89 (.pointer (some ⟨T, 0, none⟩))
  have hB34 : Below W3.heap.size W3 (W3.alloc (.cells #[.pointer (some ⟨T, 0, none⟩)] 89)) := (Below.refl _ _).alloc (Nat.le_refl _) _
  have hsz : (W3.alloc (.cells #[.pointer (some ⟨T, 0, none⟩)] 89)).heap.size = W3.heap.size + 1 := by simp
  gi_wp2
  generalize hW0 : W3.alloc (.cells #[.pointer (some ⟨T, 0, none⟩)] 89) = W0 at bN hB34 hsz ⊢
  clear hW0
  have HBN := Lib.hid bN.cell
  have HB34 := Lib.hid hB34
  have HBX := Lib.hid (HB3.out.trans (hB34.mono HB3.out.size))
  have HSZ0 : Hid (W0.heap.size = w.heap.size + 4) := Lib.hid (by rw [hsz, HSZ3.out])
  have hsm := HV.out.small
  have h30 := placed_bound 0 ss 6 5 HV.out.count.2 HV.out.five
  have HNW0 : Hid (NumW W0 (w.heap.size + 1) 0 []) := Lib.hid (HNW.out.same (hB34.block _ HNW.out.lt))
  clear bN hB34
  refine wpIn_rangeFunc_ownH rfl (by omega) (gf := 111) (lb := #[.pointer (some ⟨W3.heap.size, 0, none⟩)]) rfl trivial (enters_of Tryz.func111 (by kernel_rfl) rfl)
    (all_stops 5 (by omega) W3.heap.size _ T M1 M2 v ds ss w _ HR.out.tree.tree HR.out.tree.hold (HR.out.tree.ne HV.out) hsm.len hsm.items (.of_below HBX.out) HBN.out) CellsKept.trans (fun W l o o' _ h1 h2 h3 => cellsKept_b (w := w) W l o o' (by have := HSZ3.out; have := HSZ0.out; omega) h1 h2 h3) (Below.refl _ _) (fun _ => rfl)
    (fun pre W => NumRun w W0 (w.heap.size + 1) pre.length (pre.map Subtype.val <+: placed 0 ss) (plsOf 1 (pre.map Subtype.val)) W)
    (fun _ _ _ => False)
    (numRun_own (fun pre : List (El ss) => pre.length) (fun pre => pre.map Subtype.val <+: placed 0 ss) (fun pre => plsOf 1 (pre.map Subtype.val)) (by have := HSZ3.out; have := HSZ0.out; omega) (by have := HSZ3.out; have := HSZ0.out; omega))
    (fun _ _ _ _ _ hs _ _ => hs)
    (by obtain ⟨D0, hm0, hi0⟩ := HNW0.out; exact ⟨HBX.out, CellsKept.refl _ _, 0, D0, Nat.le_refl _, hm0, fun _ => hi0⟩)
    (fun x a' W => ∃ Bp Bx, Row W Bp 32 [.int .i64 (x.1.1 : Int), .int .i64 (x.1.2.1 : Int)] ∧ Row W Bx 40 [.int .i64 x.1.2.2.kind, .string x.1.2.2.name, .int .i64 x.1.2.2.scope] ∧
      a' = { tmps := #[.pointer (some ⟨R, 0, none⟩), undef, .pointer (some ⟨w.heap.size, 0, none⟩), .pointer (some ⟨w.heap.size + 1 + 1, 0, none⟩), .pointer (some ⟨Bp, 0, none⟩), .pointer (some ⟨Bx, 0, none⟩), undef, undef, undef, undef, .map (some (w.heap.size + 1)), .pointer (some ⟨R, 0, none⟩), .pointer (some ⟨R, 0, none⟩), .pointer (some ⟨R, 0, none⟩), .pointer (some ⟨T, 0, none⟩), .func (.func 111) #[] #[.pointer (some ⟨W3.heap.size, 0, none⟩)], .agg #[.int .i64 (x.1.1 : Int), .int .i64 (x.1.2.1 : Int)], .agg #[.int .i64 x.1.2.2.kind, .string x.1.2.2.name, .int .i64 x.1.2.2.scope], undef, undef, undef, undef, undef, undef, undef, undef, undef, undef, undef, undef, undef, undef, undef, undef, undef, undef, undef, undef, undef, undef, undef, undef, undef, undef, undef, undef, undef, undef, undef, undef, undef, undef, undef, undef, undef, undef, undef, undef, undef, undef], defers := [] })
    (fun x a' _ X Y row hs hg hr => by obtain ⟨Bp, Bx, h1, h2, h3⟩ := hs; exact ⟨Bp, Bx, h1.kept_cells hg (fun r e => (hr r e).2), h2.kept_cells hg (fun r e => (hr r e).2), h3⟩)
    ?assign ?body ?done ?stop
  case assign =>
    rintro l pre x W K hi hK
    dsimp only [elArgs]
    gi_wp2
    have ha : Below W.heap.size W ((W.alloc (.cells #[.int .i64 (x.1.1 : Int), .int .i64 (x.1.2.1 : Int)] 32)).alloc (.cells #[.int .i64 x.1.2.2.kind, .string x.1.2.2.name, .int .i64 x.1.2.2.scope] 40)) := ((Below.refl _ _).alloc (Nat.le_refl _) _).alloc (by simp) _
    obtain ⟨h1, h0, n, Dn, h2, h3, h4⟩ := hi
    refine hK _ _ (((KeepsOthers.alloc _ _).trans (KeepsOthers.alloc _ _)).from _) ((CellsKept.of_below ha).mono h1.size) ⟨h1.trans (ha.mono h1.size), h0.trans ((CellsKept.of_below ha).mono h0.size), n, Dn, h2, ownsMap_same h3 (ha.block _ h3.lt), h4⟩ ⟨W.heap.size, W.heap.size + 1, ?_, ?_, rfl⟩
    · exact (Row.new W [.int .i64 (x.1.1 : Int), .int .i64 (x.1.2.1 : Int)] 32).alloc _
    · have := Row.new (W.alloc (.cells #[.int .i64 (x.1.1 : Int), .int .i64 (x.1.2.1 : Int)] 32)) [.int .i64 x.1.2.2.kind, .string x.1.2.2.name, .int .i64 x.1.2.2.scope] 40
      rw [World.size_alloc] at this
      exact this
  case body =>
    rintro l pre x a' W hl _ ⟨h1, h0, n, Dn, h2, h3, h4⟩ ⟨Bp, Bx, hp, hx, rfl⟩ hlen
    have HNW := Lib.hid (plsOf_new (ss := ss) (pre := pre) (x := x))
    obtain ⟨⟨i, j, it⟩, hmem⟩ := x
    dsimp only at hp hx HNW ⊢
    have hlt := hsm.lt hmem
    have HDL : Hid (plsOf 1 ((pre ++ [(⟨(i, j, it), hmem⟩ : El ss)]).map Subtype.val) = plsOf 1 (pre.map Subtype.val) ++ if it.kind = 1 then [((i : Int), (j : Int))] else []) := Lib.hid (by rw [List.map_append]; exact plsOf_snoc _ _ _)
    have HPX : Hid ((pre ++ [(⟨(i, j, it), hmem⟩ : El ss)]).map Subtype.val <+: placed 0 ss → pre.map Subtype.val <+: placed 0 ss ∧ pre.map Subtype.val ++ [(i, j, it)] <+: placed 0 ss) := Lib.hid (fun h => by
      rw [List.map_append] at h
      exact ⟨(List.prefix_append _ _).trans h, h⟩)
    have x0 := hx.cell (i := 0) (v := .int .i64 it.kind) (by rfl)
    have c3 := ((HBK.out.below HB34.out HBK.out.lt).cells h0).cell (i := 0) (v := .map (some (w.heap.size + 1))) (by rfl)
    have HK0 := Lib.hid (And.intro h1 h0)
    by_cases hk : it.kind = 1
    · have d1 : (it.kind == 1) = true := by rw [hk]; rfl
      have p0 := hp.cell (i := 0) (v := .int .i64 (i : Int)) (by rfl)
      have p1 := hp.cell (i := 1) (v := .int .i64 (j : Int)) (by rfl)
      obtain ⟨hln, hle, w6, hrun6, hm6, hg6⟩ := num_put h3 (by omega) (wf_small hlt.1) (wf_small hlt.2)
      have HU6 : Hid (NumRun w W0 (w.heap.size + 1) (pre ++ [(⟨(i, j, it), hmem⟩ : El ss)]).length ((pre ++ [(⟨(i, j, it), hmem⟩ : El ss)]).map Subtype.val <+: placed 0 ss) (plsOf 1 ((pre ++ [(⟨(i, j, it), hmem⟩ : El ss)]).map Subtype.val)) w6) := Lib.hid (by
        rw [HDL.out, if_pos hk]
        exact ⟨h1.trans (below_grown1' hg6 h1.size (fun r e => by cases e; have := HSZ3.out; have := HSZ0.out; omega)), h0.trans ((cells_num h3 hg6).mono h0.size), n + 1, _, by rw [List.length_append]; simp; omega, hm6, fun hpx => (h4 (HPX.out hpx).1).put h3 (wf_small hlt.1) (wf_small hlt.2) (HNW.out (HPX.out hpx).2)⟩)
      have HG6 := Lib.hid (And.intro hg6 (cells_num h3 hg6))
      have hsz6 : Maps.size Dn < 1000000 := by omega
      clear h1 h0 h3 h4 hm6 hg6 hp hx
      gi_wp2
      exact ⟨KeepsFrom.of_grownBy HG6.out.1 (fun r e => by cases e; have := HSZ3.out; have := HSZ0.out; omega), HG6.out.2.mono HK0.out.1.size, HU6.out⟩
    · have d1 : (it.kind == 1) = false := by simpa using hk
      have HU6 : Hid (NumRun w W0 (w.heap.size + 1) (pre ++ [(⟨(i, j, it), hmem⟩ : El ss)]).length ((pre ++ [(⟨(i, j, it), hmem⟩ : El ss)]).map Subtype.val <+: placed 0 ss) (plsOf 1 ((pre ++ [(⟨(i, j, it), hmem⟩ : El ss)]).map Subtype.val)) W) := Lib.hid (by
        rw [HDL.out, if_neg hk, List.append_nil]
        exact ⟨h1, h0, n, Dn, by rw [List.length_append]; simp; omega, h3, fun hpx => h4 (HPX.out hpx).1⟩)
      clear h1 h0 h3 h4 hp hx
      gi_wp2
      exact ⟨KeepsFrom.refl _ _, CellsKept.refl _ _, HU6.out⟩
  case done =>
    rintro D xs W1 hD hS ⟨h1, h0, n, Dn, h2, h3, h4⟩ hK
    have HNM : Hid (NumW W1 (w.heap.size + 1) n (dclP ss)) := Lib.hid ⟨Dn, h3, by have h5 := h4 (by rw [hS]; exact List.prefix_refl _); rw [hS] at h5; exact h5⟩
    refine (by assumption : ∀ (a : Act) (w : World), _ → _) _ _ (wpIn_wide.2 ?_)
    have HDW := Lib.hid (And.intro hD hK)
    have HB1 := Lib.hid h1
    have HRW := Lib.hid (HR.out.below h1)
    have HK1 := Lib.hid ((HBK.out.below HB34.out HBK.out.lt).cells h0)
    have HA1 := Lib.hid ((HBA.out.below HB34.out HBA.out.lt).cells h0)
    have hbT := (Below.refl W1.heap.size W1).alloc (Nat.le_refl _) (.cells #[.int .i64 0, .int .i64 0, .int .i64 0, .int .i64 0, .int .i64 0, .int .i64 0, .int .i64 0, .int .i64 0, .int .i64 0, .int .i64 0, .int .i64 0, .int .i64 0, .int .i64 0, .int .i64 0, .int .i64 0, .int .i64 0, .int .i64 0, .int .i64 0, .int .i64 0, .int .i64 0, .int .i64 0, .int .i64 0, .int .i64 0, .int .i64 0, .int .i64 0, .int .i64 0, .int .i64 0, .int .i64 0, .int .i64 0, .int .i64 0] 142)
    have HRM := Lib.hid (HRW.out.mean.map.alloc (.cells #[.int .i64 0, .int .i64 0, .int .i64 0, .int .i64 0, .int .i64 0, .int .i64 0, .int .i64 0, .int .i64 0, .int .i64 0, .int .i64 0, .int .i64 0, .int .i64 0, .int .i64 0, .int .i64 0, .int .i64 0, .int .i64 0, .int .i64 0, .int .i64 0, .int .i64 0, .int .i64 0, .int .i64 0, .int .i64 0, .int .i64 0, .int .i64 0, .int .i64 0, .int .i64 0, .int .i64 0, .int .i64 0, .int .i64 0, .int .i64 0] 142))
    have HT0 : Hid (Row (W1.alloc (.cells #[.int .i64 0, .int .i64 0, .int .i64 0, .int .i64 0, .int .i64 0, .int .i64 0, .int .i64 0, .int .i64 0, .int .i64 0, .int .i64 0, .int .i64 0, .int .i64 0, .int .i64 0, .int .i64 0, .int .i64 0, .int .i64 0, .int .i64 0, .int .i64 0, .int .i64 0, .int .i64 0, .int .i64 0, .int .i64 0, .int .i64 0, .int .i64 0, .int .i64 0, .int .i64 0, .int .i64 0, .int .i64 0, .int .i64 0, .int .i64 0] 142)) W1.heap.size 142 (tblL (tabLeft ss (Maps.has (entsD le))))) := Lib.hid (by
      rw [← tabLeft_start HR.out.full]
      exact Row.new W1 [.int .i64 0, .int .i64 0, .int .i64 0, .int .i64 0, .int .i64 0, .int .i64 0, .int .i64 0, .int .i64 0, .int .i64 0, .int .i64 0, .int .i64 0, .int .i64 0, .int .i64 0, .int .i64 0, .int .i64 0, .int .i64 0, .int .i64 0, .int .i64 0, .int .i64 0, .int .i64 0, .int .i64 0, .int .i64 0, .int .i64 0, .int .i64 0, .int .i64 0, .int .i64 0, .int .i64 0, .int .i64 0, .int .i64 0, .int .i64 0] 142)
    have HBT := Lib.hid hbT
    have HSB : Hid (W1.heap.size < (W1.alloc (.cells #[.int .i64 0, .int .i64 0, .int .i64 0, .int .i64 0, .int .i64 0, .int .i64 0, .int .i64 0, .int .i64 0, .int .i64 0, .int .i64 0, .int .i64 0, .int .i64 0, .int .i64 0, .int .i64 0, .int .i64 0, .int .i64 0, .int .i64 0, .int .i64 0, .int .i64 0, .int .i64 0, .int .i64 0, .int .i64 0, .int .i64 0, .int .i64 0, .int .i64 0, .int .i64 0, .int .i64 0, .int .i64 0, .int .i64 0, .int .i64 0] 142)).heap.size) := Lib.hid (by simp)
    have r1 := (HRW.out.box.alloc (.cells #[.int .i64 0, .int .i64 0, .int .i64 0, .int .i64 0, .int .i64 0, .int .i64 0, .int .i64 0, .int .i64 0, .int .i64 0, .int .i64 0, .int .i64 0, .int .i64 0, .int .i64 0, .int .i64 0, .int .i64 0, .int .i64 0, .int .i64 0, .int .i64 0, .int .i64 0, .int .i64 0, .int .i64 0, .int .i64 0, .int .i64 0, .int .i64 0, .int .i64 0, .int .i64 0, .int .i64 0, .int .i64 0, .int .i64 0, .int .i64 0] 142)).cell (i := 1) (v := .map (some MR)) (by rfl)
    have hD' := hD
    clear h1 h0 h3 h4 hbT hK hS hD
    go_wp2_with (first
      | (at_range; refine wpList_range_own _ rfl _ 103 rfl 32 28 placeLaw Tryz.underlying103 sliceR MR le.length (entsD le) rfl HRM.out ?_; intro w0 hrg0 hg0 hs0)
      | go_in)
    go_frame
    generalize hWT : W1.alloc (.cells #[.int .i64 0, .int .i64 0, .int .i64 0, .int .i64 0, .int .i64 0, .int .i64 0, .int .i64 0, .int .i64 0, .int .i64 0, .int .i64 0, .int .i64 0, .int .i64 0, .int .i64 0, .int .i64 0, .int .i64 0, .int .i64 0, .int .i64 0, .int .i64 0, .int .i64 0, .int .i64 0, .int .i64 0, .int .i64 0, .int .i64 0, .int .i64 0, .int .i64 0, .int .i64 0, .int .i64 0, .int .i64 0, .int .i64 0, .int .i64 0] 142) = WT at *
    have HI0 : Hid (Below W1.heap.size W1 w0 ∧ Row w0 W1.heap.size 142 (tblL (tabLeft ss (Maps.has (entsD le))))) := Lib.hid
      ⟨HBT.out.trans (below_of_grown hg0 HBT.out.size (fun g e => by cases e)), HT0.out.same (hg0.block _ HSB.out (fun e => by cases e))⟩
    clear hg0 r1 hWT
    go_loopw [31] (fun _ wr => ∃ (left : Lit → Bool) (cnt : Nat), wr.ranges Tryz.prog 32 sliceR MR WT.heap.size le.length (entsD le) left cnt ∧ Hid (Below W1.heap.size W1 wr ∧ Row wr W1.heap.size 142 (tblL (tabLeft ss left)))) (fun _ wr => wr.rangeLeft MR WT.heap.size)
    case atStart => exact ⟨_, _, hrg0, HI0⟩
    case round =>
      obtain ⟨left, cnt, hrg, HP⟩ := hrel
      go_wp2_with (first
        | (at_next; refine wpList_next_means HV.out HR.out.full HR.out.mean.lists rfl _ rfl rfl hrg ?_ ?_)
        | go_in)
      · intro hl0
        have hs1 := HP.out.2
        rw [tabLeft_end hl0] at hs1
        have hs0' := HA1.out.below HP.out.1 HA1.out.lt
        unfold Row at hs1 hs0'
        have HBE := Lib.hid (HB1.out.trans (HP.out.1.mono HB1.out.size))
        have HDK := Lib.hid ((HP.out.1.block D (Array.getElem?_eq_some_iff.1 HDW.out.2).1).trans HDW.out.2)
        go_wp2_with (first
          | (refine wpList_load_row rfl 142 _ rfl W1.heap.size rfl 142 _ (0, 0) _ hs1 Tryz.underlying142 rfl (tblL_info _) ?_)
          | (refine wpList_store_row rfl 142 _ _ rfl w.heap.size (tblL (tabF ss)).toArray rfl rfl 142 _ hs0' (tblL_info (fun _ => 0)) (by simp [tblL_length]) (tblL_one _) ?_))
        refine ⟨by simp, .inl ⟨_, _, rfl, run_takeDeferred (by exact (setRow_other _ _ _ _ (by have h1 := HDW.out.1; have h2 := HSZ0.out; omega)).trans HDK.out), ?_⟩⟩
        refine ⟨_, results_cell_row rfl _ _ w.heap.size 142 _ (0, 0) _ rfl ((World.putObj_heap_other (by have h1 := HDW.out.1; have h2 := HSZ0.out; omega)).trans (setRow_heap _ _ _ _ _ _ hs0')) Tryz.underlying142 rfl (tblL_info _), rfl, ?_⟩
        have hbs := HBE.out.trans ((below_setRow _ w.heap.size (tblL (tabF ss)).toArray (Nat.le_refl _)))
        exact hbs.trans (belowK_b (w := w) (Nat.le_refl _) _ D _ _ (by have h1 := HDW.out.1; have h2 := HSZ0.out; omega) ((setRow_other _ _ _ _ (by have h1 := HDW.out.1; have h2 := HSZ0.out; omega)).trans HDK.out) rfl rfl)
      · intro i j x oa c w1 cnt1 he hrg1 hlt hg1 hs1 hen
        have hTW := HSB.out
        have HW1 := Lib.hid (HP.out.1.trans (below_of_grown hg1 HP.out.1.size (fun g e => by cases e; exact Nat.le_of_lt hTW)))
        have HR1 := Lib.hid (HP.out.2.same (hg1.block _ HP.out.2.lt (fun e => by have := Option.some.inj e; omega)))
        have hq : (i, j, x) ∈ placed 0 ss := HR.out.full ▸ List.mem_map_of_mem (f := Prod.fst) he
        have hlt6 : i < 6 ∧ j < 5 := by
          obtain ⟨s, h1, h2⟩ := placed_at hq
          dsimp only at h1 h2
          have a1 := (List.getElem?_eq_some_iff.1 h1).1
          have a2 := (List.getElem?_eq_some_iff.1 h2).1
          have a3 := HV.out.count.2
          have a4 := HV.out.five s (List.mem_of_getElem? h1)
          omega
        obtain ⟨oa', c', he1, harg⟩ := argPlaces_of_owns (HR.out.mean.lists _ he)
        dsimp only at he1
        simp only [Value.slice.injEq] at he1
        obtain ⟨rfl, -, rfl⟩ := he1
        have HARG := Lib.hid harg
        have HQ := Lib.hid hq
        have HSP := Lib.hid (tabLeft_step (ss := ss) (left := left) hlt6.1 hlt6.2)
        have HML := Lib.hid (meanIt_length HV.out (i, j, x))
        have HCN := Lib.hid hlt
        have HBW := Lib.hid ((Below.refl w1.heap.size w1).alloc (Nat.le_refl _) (.cells #[.int .i64 (i : Int), .int .i64 (j : Int)] 32))
        have RQ := Lib.hid (Row.new w1 [.int .i64 (i : Int), .int .i64 (j : Int)] 32)
        have HRW1 := Lib.hid hrg1
        have p0 := RQ.out.cell (i := 0) (v := .int .i64 (i : Int)) (by rfl)
        have p1 := RQ.out.cell (i := 1) (v := .int .i64 (j : Int)) (by rfl)
        have HDR : Hid (∀ (W : World) (q : Nat), World.drewN (w1.alloc (.cells #[.int .i64 (i : Int), .int .i64 (j : Int)] 32)) q = W → Below w1.heap.size w1 W) := Lib.hid (fun W q e => by
          subst e
          exact below_drewN HBW.out q)
        have hi6 : (i : Int) < 6 := by omega
        have hj5 : (j : Int) < 5 := by omega
        clear he hq hrg1 hg1 hs1 harg hlt
        go_wp2
        go_quiet (fail)
        generalize hWD : World.drewN _ _ = wD
        have HBD := Lib.hid (HDR.out _ _ hWD)
        have HXD := Lib.hid (HW1.out.trans (HBD.out.mono HW1.out.size))
        have HRD := Lib.hid (HR1.out.below HBD.out HR1.out.lt)
        have HRGD := Lib.hid (ranges_same HRW1.out (HBD.out.block _ HRW1.out.owns.lt) (HBD.out.block _ HRW1.out.lt))
        clear hWD p0 p1
        have hn30 : i * 5 + j < 30 := by omega
        have t0 := HRD.out.cell (tblL_get _ hn30)
        have tf := HRD.out.frozen (i * 5 + j)
        have HNEW : Hid (∀ val : Int, tabT ss i j = val → Below W1.heap.size W1 (wD.setCell ⟨W1.heap.size, i * 5 + j, none⟩ (.int .i64 val)) ∧ Row (wD.setCell ⟨W1.heap.size, i * 5 + j, none⟩ (.int .i64 val)) W1.heap.size 142 (tblL (tabLeft ss fun z => left z && !z.sameKey (plLit (i : Int) (j : Int)))) ∧
            (wD.setCell ⟨W1.heap.size, i * 5 + j, none⟩ (.int .i64 val)).ranges Tryz.prog 32 sliceR MR WT.heap.size le.length (entsD le) (fun z => left z && !z.sameKey (plLit (i : Int) (j : Int))) cnt1) := Lib.hid (fun val hv => by
          refine ⟨HXD.out.setCell (Nat.le_refl _) _, ?_, ranges_same HRGD.out (Below.heap_setCell _ _ _ _ (by show MR ≠ W1.heap.size; have := HRW.out.mean.map.lt; omega)) (Below.heap_setCell _ _ _ _ (by show WT.heap.size ≠ W1.heap.size; omega))⟩
          rw [HSP.out, hv]
          exact HRD.out.set _ _)
        by_cases hl0 : (meanIt ss (i, j, x)).length = 0
        · have e0 : (((meanIt ss (i, j, x)).length : Int) == 0) = true := by simp [hl0]
          have HN := Lib.hid (HNEW.out 0 (tab_none HQ.out hl0))
          clear hl0
          go_wp2
          go_roundw
          case rel => exact ⟨_, cnt1, HN.out.2.2, Lib.hid ⟨HN.out.1, HN.out.2.1⟩⟩
          case measure => rw [HN.out.2.2.left_eq, hrg.left_eq]; exact HCN.out
        · by_cases hl1 : (meanIt ss (i, j, x)).length = 1
          · obtain ⟨p, hp⟩ := List.length_eq_one_iff.1 hl1
            obtain ⟨k, hk, htk, hk30⟩ := tab_one HV.out HQ.out hp
            have e0 : (((meanIt ss (i, j, x)).length : Int) == 0) = false := by rw [beq_eq_false_iff_ne]; omega
            have e1 : (((meanIt ss (i, j, x)).length : Int) == 1) = true := by rw [hl1]; rfl
            obtain ⟨a, b⟩ := p
            obtain ⟨b3, f3, rfl, hb3, q3⟩ := (HARG.out.below (HB1.out.trans (HXD.out.mono HB1.out.size))).at (by omega)
            obtain ⟨u0, u1⟩ := q3 0 (a, b) (by rw [hp]; rfl)
            simp only [Nat.zero_mul, Nat.add_zero] at u0 u1
            have HN := Lib.hid (HNEW.out ((k : Int) + 1) htk)
            have c3 := (HK1.out.below HXD.out HK1.out.lt).cell (i := 0) (v := .map (some (w.heap.size + 1))) (by rfl)
            have hlk := num_look (HNM.out.same (show wD.drew.heap[w.heap.size + 1]? = W1.heap[w.heap.size + 1]? from HXD.out.block _ HNM.out.lt)) hk
            have c3' := cell_drew c3
            have u0' := cell_drew u0
            have u1' := cell_drew u1
            have t0' := cell_drew t0
            have tf' : wD.drew.frozen? ⟨W1.heap.size, i * 5 + j, none⟩ = false := tf
            have HND : Hid (Below W1.heap.size W1 ((wD.setCell ⟨W1.heap.size, i * 5 + j, none⟩ (.int .i64 ((k : Int) + 1))).drew) ∧ Row ((wD.setCell ⟨W1.heap.size, i * 5 + j, none⟩ (.int .i64 ((k : Int) + 1))).drew) W1.heap.size 142 (tblL (tabLeft ss fun z => left z && !z.sameKey (plLit (i : Int) (j : Int)))) ∧
              ((wD.setCell ⟨W1.heap.size, i * 5 + j, none⟩ (.int .i64 ((k : Int) + 1))).drew).ranges Tryz.prog 32 sliceR MR WT.heap.size le.length (entsD le) (fun z => left z && !z.sameKey (plLit (i : Int) (j : Int))) cnt1) := Lib.hid ⟨HN.out.1.drew, HN.out.2.1.drew, ranges_same HN.out.2.2 rfl rfl⟩
            have hp0 : 0 < (meanIt ss (i, j, x)).length := by omega
            clear hp hk htk hl0 hl1 q3 hb3 HN
            go_wp2
            go_region
            all_goals go_wp2
            all_goals go_roundw
            all_goals first
              | exact ⟨_, cnt1, HND.out.2.2, Lib.hid ⟨HND.out.1, HND.out.2.1⟩⟩
              | (rw [HND.out.2.2.left_eq, hrg.left_eq]; exact HCN.out)
          · have e0 : (((meanIt ss (i, j, x)).length : Int) == 0) = false := by rw [beq_eq_false_iff_ne]; omega
            have e1 : (((meanIt ss (i, j, x)).length : Int) == 1) = false := by rw [beq_eq_false_iff_ne]; omega
            have HN := Lib.hid (HNEW.out (-1) (tab_more HQ.out hl0 hl1))
            clear hl0 hl1
            go_wp2
            go_roundw
            case rel => exact ⟨_, cnt1, HN.out.2.2, Lib.hid ⟨HN.out.1, HN.out.2.1⟩⟩
            case measure => rw [HN.out.2.2.left_eq, hrg.left_eq]; exact HCN.out
  case stop =>
    rintro D c pre W _ _ h _
    exact h.elim
end Go.Proofs.YtdmaaneilfjfcaaGreatDoor
namespace Go.Proofs.YtdmaaneilfjfcaaGreatDoor
open Go Go.RowKit
theorem enc_byte {b : UInt8} (h1 : 97 ≤ b.toNat) (h2 : b.toNat ≤ 122) : Utf8.encode ((b.toNat : Nat) : Int) = ⟨#[b]⟩ := by
  have h3 := encode_letter (k := b.toNat - 97) (by omega)
  rw [show 97 + (b.toNat - 97) = b.toNat by omega] at h3
  rw [h3]
  unfold letterB
  rw [show 97 + (b.toNat - 97) = b.toNat by omega, UInt8.ofNat_toNat]
set_option maxRecDepth 100000 in
set_option maxHeartbeats 4000000 in
/-- The renaming that a table gives, at a place. -/
theorem rnm1_any (i j A N : Nat) (hi : i < 6) (hj : j < 5) (f : Nat → Int) (names old nm : ByteArray) (W : World) {G : Nat} (hG : Row W G 142 (tblL f)) (hA : Row W A 233 [.pointer (some ⟨G, 0, none⟩)]) (hN : Row W N 9 [.string names])
    (hf : (f (i * 5 + j) = 0 ∧ nm = ⟨#[122]⟩) ∨ ∃ k : Nat, f (i * 5 + j) = (k : Int) + 1 ∧ ∃ hk : k < names.size, 97 ≤ (names[k]'hk).toNat ∧ (names[k]'hk).toNat ≤ 122 ∧ nm = ⟨#[names[k]'hk]⟩) (hsz : names.size ≤ 1000) :
    Calls Tryz.prog 171 #[.agg #[.int .i64 (i : Int), .int .i64 (j : Int)], .string old, .pointer (some ⟨A, 0, none⟩), .pointer (some ⟨N, 0, none⟩)] W fun e W' => e = .returned (.string nm) ∧ Below W.heap.size W W' := by
  have hb := (Below.refl W.heap.size W).alloc (Nat.le_refl _) (.cells #[.int .i64 (i : Int), .int .i64 (j : Int)] 32)
  have R1 := Row.new W [.int .i64 (i : Int), .int .i64 (j : Int)] 32
  have p0 := R1.cell (i := 0) (v := .int .i64 (i : Int)) (by rfl)
  have p1 := R1.cell (i := 1) (v := .int .i64 (j : Int)) (by rfl)
  have a0 := (hA.below hb hA.lt).cell (i := 0) (v := .pointer (some ⟨G, 0, none⟩)) (by rfl)
  have t0 := (hG.below hb hG.lt).cell (tblL_get f (show i * 5 + j < 30 by omega))
  have HN0 := Lib.hid (hN.below hb hN.lt)
  have hi6 : (i : Int) < 6 := by omega
  have hj5 : (j : Int) < 5 := by omega
  have HB := Lib.hid hb
  clear hb R1 hG hA hN
  rcases hf with ⟨hf, rfl⟩ | ⟨k, hf, hk, ha, hz, rfl⟩
  · rw [hf] at t0
    have HDR : Hid (∀ (w : World) (q : Nat), World.drewN (W.alloc (.cells #[.int .i64 (i : Int), .int .i64 (j : Int)] 32)) q = w → Below W.heap.size W w) := Lib.hid (fun w q e => by
      subst e
      exact below_drewN HB.out q)
    go_enter Tryz.func171, Tryz.ntmps171
    go_wp2
    go_quiet (fail)
    generalize hWD : World.drewN _ _ = wD
    have HBD := Lib.hid (HDR.out _ _ hWD)
    clear hWD p0 p1 a0 t0
    go_wp2
    go_ret
    exact ⟨rfl, HBD.out⟩
  · rw [hf] at t0
    have HDR : Hid (∀ (w : World) (q : Nat), World.drewN (W.alloc (.cells #[.int .i64 (i : Int), .int .i64 (j : Int)] 32)) q = w → Below W.heap.size W w ∧ Row w N 9 [.string names]) := Lib.hid (fun w q e => by
      subst e
      exact ⟨below_drewN HB.out q, HN0.out.below (below_drewN (Below.refl _ _) q) HN0.out.lt⟩)
    have e0 : (((k : Int) + 1) == 0) = false := by rw [beq_eq_false_iff_ne]; omega
    have hwr : IntKind.i64.wrap ((k : Int) + 1 - 1) = (k : Int) := by rw [wrap_small _ (by omega) (by omega)]; omega
    have hcv : Utf8.encode (((names[k]'hk).toNat : Nat) : Int) = ⟨#[names[k]'hk]⟩ := enc_byte ha hz
    go_enter Tryz.func171, Tryz.ntmps171
    go_wp2
    go_quiet (fail)
    generalize hWD : World.drewN _ _ = wD
    have HBD := Lib.hid (HDR.out _ _ hWD)
    have n0 := HBD.out.2.cell (i := 0) (v := .string names) (by rfl)
    clear hWD p0 p1 a0 t0
    go_wp2
    go_ret
    exact ⟨rfl, HBD.out.1⟩
theorem index5_run (c : Nat → Int) {j : Nat} (hj : j < 5) (W : World) : (Instr.index 140 (.agg #[.int .i64 (c 0), .int .i64 (c 1), .int .i64 (c 2), .int .i64 (c 3), .int .i64 (c 4)]) (.int .i64 (j : Int))).run Tryz.prog W = .ok (.int .i64 (c j)) W := by
  have h : j = 0 ∨ j = 1 ∨ j = 2 ∨ j = 3 ∨ j = 4 := by omega
  clear hj
  rcases h with rfl | rfl | rfl | rfl | rfl
  · show (Instr.index 140 (.agg #[.int .i64 (c 0), .int .i64 (c 1), .int .i64 (c 2), .int .i64 (c 3), .int .i64 (c 4)]) (.int .i64 0)).run Tryz.prog W = .ok (.int .i64 (c 0)) W
    kernel_rfl
  · show (Instr.index 140 (.agg #[.int .i64 (c 0), .int .i64 (c 1), .int .i64 (c 2), .int .i64 (c 3), .int .i64 (c 4)]) (.int .i64 1)).run Tryz.prog W = .ok (.int .i64 (c 1)) W
    kernel_rfl
  · show (Instr.index 140 (.agg #[.int .i64 (c 0), .int .i64 (c 1), .int .i64 (c 2), .int .i64 (c 3), .int .i64 (c 4)]) (.int .i64 2)).run Tryz.prog W = .ok (.int .i64 (c 2)) W
    kernel_rfl
  · show (Instr.index 140 (.agg #[.int .i64 (c 0), .int .i64 (c 1), .int .i64 (c 2), .int .i64 (c 3), .int .i64 (c 4)]) (.int .i64 3)).run Tryz.prog W = .ok (.int .i64 (c 3)) W
    kernel_rfl
  · show (Instr.index 140 (.agg #[.int .i64 (c 0), .int .i64 (c 1), .int .i64 (c 2), .int .i64 (c 3), .int .i64 (c 4)]) (.int .i64 4)).run Tryz.prog W = .ok (.int .i64 (c 4)) W
    kernel_rfl
theorem wpList_index5 {ops : Array Oper} {rest : List Oper} {o : Oper} {a : Act} {w : World} {Q : Exit → Act → World → Prop} (hgd : o.guard = none) (x i : Operand) (ho : o.op = .index 140 x i) (c : Nat → Int) (j : Nat) (hj : j < 5)
    (hx : a.eval x = .agg #[.int .i64 (c 0), .int .i64 (c 1), .int .i64 (c 2), .int .i64 (c 3), .int .i64 (c 4)]) (hi : a.eval i = .int .i64 (j : Int)) (h : wpList Tryz.prog ops Q rest (a.put o.dst (.int .i64 (c j))) w) : wpList Tryz.prog ops Q (o :: rest) a w :=
  wpList_plain hgd fun _ hK => by
    unfold Oper.wp execOp
    simp [ho, hx, hi, index5_run c hj w, Result.andThen]
    exact hK _ _ h
set_option maxRecDepth 100000 in
set_option maxHeartbeats 8000000 in
theorem has_any {w : World} {G : Nat} {f : Nat → Int} (hG : Row w G 142 (tblL f)) (x : Int) :
    Calls Tryz.prog 137 #[.pointer (some ⟨G, 0, none⟩), .int .i64 x] w fun e w' => ∃ b : Bool, e = .returned (.bool b) ∧ (b = true ↔ ∃ k, k < 30 ∧ f k = x) ∧ Below w.heap.size w w' := by
  have HG := Lib.hid hG
  clear hG
  go_enter Tryz.func137, Tryz.ntmps137
  go_wp2
  go_loopw [11] (fun i wr => ∃ k : Nat, i = .int .i64 k ∧ k ≤ 6 ∧ Hid ((∀ m, m < k * 5 → f m ≠ x) ∧ Below w.heap.size w wr)) (fun i _ => 6 - (intOf i).toNat)
  case atStart => exact ⟨0, rfl, by omega, Lib.hid ⟨fun m h => by omega, Below.refl _ _⟩⟩
  case round =>
    obtain ⟨k, rfl, hk, hP⟩ := hrel
    by_cases hlt : k < 6
    · have HR := HG.out.below hP.out.2 HG.out.lt
      have t0 : wr.cell? ⟨G, k * 5, none⟩ = some (.int .i64 (f (k * 5))) := HR.cell (tblL_get f (show k * 5 < 30 by omega))
      have t1 : wr.cell? ⟨G, k * 5 + 1, none⟩ = some (.int .i64 (f (k * 5 + 1))) := HR.cell (tblL_get f (show k * 5 + 1 < 30 by omega))
      have t2 : wr.cell? ⟨G, k * 5 + 2, none⟩ = some (.int .i64 (f (k * 5 + 2))) := HR.cell (tblL_get f (show k * 5 + 2 < 30 by omega))
      have t3 : wr.cell? ⟨G, k * 5 + 3, none⟩ = some (.int .i64 (f (k * 5 + 3))) := HR.cell (tblL_get f (show k * 5 + 3 < 30 by omega))
      have t4 : wr.cell? ⟨G, k * 5 + 4, none⟩ = some (.int .i64 (f (k * 5 + 4))) := HR.cell (tblL_get f (show k * 5 + 4 < 30 by omega))
      have hk6 : (k : Int) < 6 := by omega
      have HBA := Lib.hid (hP.out.2.alloc hP.out.2.size (.cells #[.int .i64 (f (k * 5)), .int .i64 (f (k * 5 + 1)), .int .i64 (f (k * 5 + 2)), .int .i64 (f (k * 5 + 3)), .int .i64 (f (k * 5 + 4))] 140))
      clear HR
      go_wp2
      go_loopw [17] (fun i wi => ∃ j : Nat, i = .int .i64 j ∧ j ≤ 5 ∧ Hid ((∀ m, m < k * 5 + j → f m ≠ x) ∧ Below w.heap.size w wi)) (fun i _ => 5 - (intOf i).toNat)
      case atStart => exact ⟨0, rfl, by omega, Lib.hid ⟨fun m h => hP.out.1 m (by omega), HBA.out⟩⟩
      case round =>
        obtain ⟨j, rfl, hj, hI⟩ := hrel
        by_cases hlt2 : j < 5
        · obtain ⟨b, hbe⟩ : ∃ b, (f (k * 5 + j) == x) = b := ⟨_, rfl⟩
          have HBE := Lib.hid hbe
          clear hbe
          cases b
          · have HN2 : Hid (∀ m, m < k * 5 + (j + 1) → f m ≠ x) := Lib.hid (fun m hm e => by
              by_cases h9 : m = k * 5 + j
              · subst h9
                have := HBE.out
                rw [e] at this
                simp at this
              · exact hI.out.1 m (by omega) e)
            have e9 := HBE.out
            go_wp2_with (refine wpList_index5 rfl _ _ rfl (fun q => f (k * 5 + q)) j hlt2 rfl rfl ?_)
            go_roundw
            case rel => exact ⟨j + 1, by go_num, by omega, Lib.hid ⟨HN2.out, hI.out.2⟩⟩
            case measure => simp only [intOf]; omega
          · have e9 := HBE.out
            have HY : Hid (f (k * 5 + j) = x) := Lib.hid (by simpa using HBE.out)
            go_wp2_with (refine wpList_index5 rfl _ _ rfl (fun q => f (k * 5 + q)) j hlt2 rfl rfl ?_)
            go_ret
            exact ⟨true, rfl, ⟨fun _ => ⟨_, by omega, HY.out⟩, fun _ => rfl⟩, hI.out.2⟩
        · obtain rfl : j = 5 := by omega
          have HN2 : Hid ((∀ m, m < (k + 1) * 5 → f m ≠ x) ∧ Below w.heap.size w wr) := Lib.hid ⟨fun m h => hI.out.1 m (by omega), hI.out.2⟩
          go_wp2
          go_roundw
          case rel => exact ⟨k + 1, by go_num, by omega, HN2⟩
          case measure => simp only [intOf]; omega
    · obtain rfl : k = 6 := by omega
      have HE : Hid (¬ ∃ m, m < 30 ∧ f m = x) := Lib.hid (fun ⟨m, h1, h2⟩ => hP.out.1 m (by omega) h2)
      go_wp2
      go_ret
      exact ⟨false, rfl, ⟨fun h => (by cases h), fun h => absurd h HE.out⟩, hP.out.2⟩
end Go.Proofs.YtdmaaneilfjfcaaGreatDoor
namespace Go.Proofs.YtdmaaneilfjfcaaGreatDoor
open Go Go.RowKit Go.Maps
attribute [local go_sem] Oper.semAt_some
set_option maxRecDepth 100000 in
set_option maxHeartbeats 4000000 in
theorem treeOwn_any {ss : List Sc} (hv : Valid ss) {w : World} {B T M1 M2 : Nat} {v : Value} {ds : List Nd} (hT : TreeIs w B T M1 M2 v ds ss) :
    Calls Tryz.prog 94 #[.pointer (some ⟨T, 0, none⟩)] w fun e w' => e = .returned (.string (bT (ownT ss))) ∧ Below w.heap.size w w' := by
  have HV := Lib.hid hv
  have HT := Lib.hid hT
  clear hv hT
  refine (callsIn_wide (n := 6)).1 ?_
  refine callsIn_of_wp_marks Tryz.func94 rfl trivial ?_ rfl
  simp only [Tryz.ntmps94, List.size_toArray, List.length_cons, List.length_nil, Nat.reduceAdd, Nat.reduceSub, Array.replicate_succ, Array.replicate_zero, List.push_toArray, List.append_toArray, List.nil_append, List.cons_append]
  gi_wp2_with fail
  refine ⟨trivial, ?_⟩
  gi_at_call 64
  refine ((callsIn_wide (n := 5)).2 (all_any _ _)).mono ?_
  rintro e w2 ⟨rfl, rfl⟩
  gi_wp2
  have hBx : Below w.heap.size w ((w.alloc (.cells #[.string ⟨#[]⟩] 9)).alloc (.cells #[.pointer (some ⟨T, 0, none⟩)] 89)) := ((Below.refl _ _).alloc (Nat.le_refl _) _).alloc (by simp) _
  have bL := (Boxed.new w 9 (.string ⟨#[]⟩)).alloc (.cells #[.pointer (some ⟨T, 0, none⟩)] 89)
  have bN := Boxed.new (w.alloc (.cells #[.string ⟨#[]⟩] 9)) 89 (.pointer (some ⟨T, 0, none⟩))
  rw [World.size_alloc] at bN
  have hsm := HV.out.small
  refine wpIn_rangeFunc_ownH rfl (by omega) (gf := 111) (lb := #[.pointer (some ⟨w.heap.size + 1, 0, none⟩)]) rfl trivial (enters_of Tryz.func111 (by kernel_rfl) rfl)
    (all_stops 5 (by omega) (w.heap.size + 1) _ T M1 M2 v ds ss w _ HT.out.tree HT.out.hold (HT.out.ne HV.out) hsm.len hsm.items (.of_below hBx) bN.cell) CellsKept.trans (fun W l o o' _ h1 h2 h3 => cellsKept_b (w := w) W l o o' (by simp at *; omega) h1 h2 h3) (Below.refl _ _) (fun _ => rfl)
    (fun pre W => Boxed W w.heap.size 9 (.string (bT (ownS (pre.map Subtype.val)))) ∧ (CellsKept w.heap.size w W ∧ Below w.heap.size w W))
    (fun _ _ _ => False)
    (OwnFrom.and (Own.from (boxed_own w.heap.size 9 (fun pre : List (El ss) => .string (bT (ownS (pre.map Subtype.val))))) _) (OwnFrom.and (cellsKept_own w) (ownFrom_below (Nat.le_refl _) (by simp; omega))))
    (fun _ _ _ _ _ hs _ _ => hs)
    ⟨bL, .of_below hBx, hBx⟩
    (fun x a' W => ∃ Bx, Row W Bx 40 [.int .i64 x.1.2.2.kind, .string x.1.2.2.name, .int .i64 x.1.2.2.scope] ∧ w.heap.size < Bx ∧
      a' = { tmps := #[.pointer (some ⟨T, 0, none⟩), undef, .string ⟨#[]⟩, .pointer (some ⟨w.heap.size, 0, none⟩), undef, .pointer (some ⟨Bx, 0, none⟩), .pointer (some ⟨T, 0, none⟩), .func (.func 111) #[] #[.pointer (some ⟨w.heap.size + 1, 0, none⟩)], .agg #[.int .i64 (x.1.1 : Int), .int .i64 (x.1.2.1 : Int)], .agg #[.int .i64 x.1.2.2.kind, .string x.1.2.2.name, .int .i64 x.1.2.2.scope], undef, undef, undef, undef, undef, undef, undef, undef], defers := [] })
    (fun x a' _ X Y row hs hg hr => by obtain ⟨Bx, h2, h4, h5⟩ := hs; exact ⟨Bx, h2.kept_cells hg (fun r e => (hr r e).2), h4, h5⟩)
    ?assign ?body ?done ?stop
  case assign =>
    rintro l pre x W K hi hK
    dsimp only [elArgs]
    gi_wp2
    have ha : Below W.heap.size W (W.alloc (.cells #[.int .i64 x.1.2.2.kind, .string x.1.2.2.name, .int .i64 x.1.2.2.scope] 40)) := (Below.refl _ _).alloc (Nat.le_refl _) _
    obtain ⟨hB, hck, hbw⟩ := hi
    have hlt := hB.lt
    exact hK _ _ ((KeepsOthers.alloc _ _).from _) ((CellsKept.of_below ha).mono hbw.size) ⟨hB.alloc _, hck.trans ((CellsKept.of_below ha).mono hbw.size), hbw.trans (ha.mono hbw.size)⟩ ⟨W.heap.size, Row.new W [.int .i64 x.1.2.2.kind, .string x.1.2.2.name, .int .i64 x.1.2.2.scope] 40, hlt, rfl⟩
  case body =>
    rintro l pre x a' W hl _ ⟨hB, hck, hbw⟩ ⟨Bx, hx, hlx, rfl⟩ hlen
    obtain ⟨⟨i, j, it⟩, hmem⟩ := x
    have HQ : Hid (ownS ((pre ++ [(⟨(i, j, it), hmem⟩ : El ss)]).map Subtype.val) = ownS (pre.map Subtype.val) ++ if it.kind = 1 then it.name.data.toList else []) := Lib.hid (by rw [List.map_append]; exact ownS_snoc _ _)
    dsimp only at hx ⊢
    have hsl : (ownS (pre.map Subtype.val)).length ≤ 1000 := by
      have h1 := ownS_length HV.out (pre.map Subtype.val) (fun q hq => by obtain ⟨y, -, rfl⟩ := List.mem_map.1 hq; exact y.2)
      have h2 := plsOf_length 1 (pre.map Subtype.val)
      have h3 := placed_bound 0 ss 6 5 HV.out.count.2 HV.out.five
      rw [List.length_map] at h2
      omega
    have hnm : it.name.size ≤ 1 := by
      obtain ⟨b, hb, -, -⟩ := name_byte HV.out hmem
      dsimp only at hb
      have h4 := congrArg List.length hb
      rw [Array.length_toList] at h4
      exact Nat.le_of_eq h4
    have hbs := bT_size (ownS (pre.map Subtype.val))
    have n1 : ¬ 9223372036854775807 < (bT (ownS (pre.map Subtype.val))).size + it.name.size := by omega
    have x0 := hx.cell (i := 0) (by rfl)
    have x1 := hx.cell (i := 1) (by rfl)
    have b0 := hB.cell
    have f0 := hB.frozen
    have HCB := Lib.hid (And.intro hck hbw)
    by_cases he : it.kind = 1
    · have hq : (it.kind == 1) = true := by simpa using he
      have HE : Hid (ownS ((pre ++ [(⟨(i, j, it), hmem⟩ : El ss)]).map Subtype.val) = ownS (pre.map Subtype.val) ++ it.name.data.toList) := Lib.hid (by rw [HQ.out, if_pos he])
      have HP := Lib.hid (And.intro (hB.set (.string (bT (ownS (pre.map Subtype.val)) ++ it.name))) ((Below.refl w.heap.size W).setCell (p := ⟨w.heap.size, 0, none⟩) (Nat.le_refl _) (.string (bT (ownS (pre.map Subtype.val)) ++ it.name))))
      clear hB hck hbw he hx hsl hnm hbs
      gi_wp2
      refine ⟨(KeepsOthers.setCell _ _ _).from _, .of_below HP.out.2, ?_, HCB.out.1.trans (.of_below HP.out.2), HCB.out.2.trans HP.out.2⟩
      rw [HE.out, ← bT_append]
      exact HP.out.1
    · have hq : (it.kind == 1) = false := by simpa using he
      have HE : Hid (ownS ((pre ++ [(⟨(i, j, it), hmem⟩ : El ss)]).map Subtype.val) = ownS (pre.map Subtype.val)) := Lib.hid (by rw [HQ.out, if_neg he, List.append_nil])
      have HP := Lib.hid hB
      clear hB hck hbw he hx hsl hnm hbs
      gi_wp2
      refine ⟨KeepsFrom.refl _ _, CellsKept.refl _ _, ?_, HCB.out.1, HCB.out.2⟩
      rw [HE.out]
      exact HP.out
  case done =>
    rintro D xs W hD hS ⟨hB, hck, hbw⟩ hK
    have cB := hB.cell
    have HS2 : Hid (ownS (xs.map Subtype.val) = ownT ss) := Lib.hid (by rw [hS]; rfl)
    have HBW := Lib.hid hbw
    clear hS hck
    gi_wp2
    refine ⟨by simp, .inl ⟨_, _, rfl, run_takeDeferred hK, ?_⟩⟩
    refine ⟨_, results_tmp rfl _ _ _, by rw [HS2.out]; rfl, ?_⟩
    exact HBW.out.trans (belowK_b (w := w) (Nat.le_refl _) W D _ _ (Nat.le_trans hBx.size hD) hK rfl rfl)
  case stop =>
    rintro D c pre W _ _ h _
    exact h.elim
set_option maxRecDepth 100000 in
set_option maxHeartbeats 4000000 in
theorem implOwnNames_any (ss : List Sc) (hF : Fair ss) (oa : Option Addr) (cap : Nat) (w : World) (hc : HoldsScopes w oa ss) (hE : TreeErrs w) :
    Calls Tryz.prog 37 #[.agg #[.slice oa ss.length cap]] w fun e w' => ∃ (T : ByteArray) (ok : Bool), e = .returned (.tuple #[.string T, .bool ok]) ∧ ownR ss T ok ∧ Below w.heap.size w w' := by
  have hb0 := (Below.refl w.heap.size w).alloc (Nat.le_refl _) (.cells #[.slice oa ss.length cap] 25)
  have C := Lib.hid (hF.tree oa cap _ (hc.below hb0 (Nat.le_refl _)) (hE.below hb0 hE.size))
  have HB0 := Lib.hid hb0
  clear hF hc hE hb0
  go_enter Tryz.func37, Tryz.ntmps37
  go_wp2_with fail
  refine C.out.mono ?_
  rintro e w1 (⟨hv, ⟨tp, p, rfl⟩, hb⟩ | ⟨hv, T, M1, M2, v, ds, rfl, hb, hT⟩)
  · have HN := Lib.hid (And.intro hv (HB0.out.trans (hb.mono HB0.out.size)))
    clear hv hb
    go_wp2
    go_ret2
    exact ⟨_, _, rfl, .inl ⟨HN.out.1, rfl, rfl⟩, HN.out.2⟩
  · have HN := Lib.hid (And.intro hv (HB0.out.trans (hb.mono HB0.out.size)))
    have C2 := Lib.hid (treeOwn_any hv hT)
    clear hv hb hT
    go_wp2_with fail
    refine C2.out.mono ?_
    rintro e w2 ⟨rfl, hb2⟩
    have HB2 := Lib.hid (HN.out.2.trans (hb2.mono HN.out.2.size))
    clear hb2
    go_wp2
    go_ret2
    exact ⟨_, _, rfl, .inr ⟨HN.out.1, rfl, rfl⟩, HB2.out⟩
theorem strI_next {W : World} {I k : Nat} {S : List UInt8} {b : UInt8} (h : W.heap[I]? = some (.stringIter (bT S) k)) (hk : S[k]? = some b) (hb : b.toNat < 128) (ty : TypeId) :
    (Instr.next (.pointer (some ⟨I, 0, none⟩)) true ty).run Tryz.prog W = .ok (.tuple #[.bool true, .int .i64 (k : Int), .int .i32 (b.toNat : Int)]) (W.iterAt I (bT S) (k + 1)) := by
  have h1 : k < (bT S).size := by rw [bT_size]; exact (List.getElem?_eq_some_iff.1 hk).1
  have h2 : (bT S)[k]'h1 = b := by
    obtain ⟨h3, h4⟩ := List.getElem?_eq_some_iff.1 hk
    rw [← h4]
    show (S.toArray)[k]'(by simpa using h3) = S[k]
    simp
  rw [Lib.run_next_ascii_at W I (bT S) k ty h h1 (by rw [h2]; exact hb), h2]
theorem strI_end {W : World} {I k : Nat} {S : List UInt8} (h : W.heap[I]? = some (.stringIter (bT S) k)) (hk : ¬ k < S.length) (ty : TypeId) :
    (Instr.next (.pointer (some ⟨I, 0, none⟩)) true ty).run Tryz.prog W = .ok (.tuple #[.bool false]) W :=
  Lib.run_next_end_at W I (bT S) k ty h (by rw [bT_size]; exact hk)
theorem rune_wf (b : UInt8) : (Lit.int .i32 (b.toNat : Int)).wf = true := by
  have h := b.toNat_lt
  have h1 : IntKind.i32.min = -2147483648 := by decide
  have h2 : IntKind.i32.max = 2147483647 := by decide
  show (decide (IntKind.i32.min ≤ (b.toNat : Int)) && decide ((b.toNat : Int) ≤ IntKind.i32.max)) = true
  rw [h1, h2]
  simp
  omega
/-- What holds at the head of a round of CountNames. -/
structure CntAt (w wr : World) (M I k : Nat) (S : List UInt8) : Prop where
  below : Below w.heap.size w wr
  iter : wr.heap[I]? = some (.stringIter (bT S) k)
  map : ∃ (D : DataW Unit) (n : Nat), n ≤ k ∧ wr.ownsMap Tryz.prog 21 (plainElem Tryz.prog 4) M n D ∧ (∀ b : UInt8, Maps.has D (.int .i32 (b.toNat : Int)) = true ↔ b ∈ S.take k) ∧ Maps.size D = cntL (S.take k)
theorem runeLaw : Maps.Keyed Tryz.prog 21 := int_keyed Tryz.underlying21
theorem CntAt.pos {w wr : World} {M I k : Nat} {S : List UInt8} (h : CntAt w wr M I k S) : wr.iterPos I = k := by unfold World.iterPos; rw [h.iter]
theorem CntAt.put {w wr : World} {M I k : Nat} {S : List UInt8} {b : UInt8} (h : CntAt w wr M I k S) (hk : S[k]? = some b) (h1 : 97 ≤ b.toNat) (h2 : b.toNat ≤ 122) (hM : w.heap.size ≤ M) (hI : w.heap.size ≤ I) (hMI : M ≠ I) (hk9 : k ≤ 1000) :
    ∃ w', (Instr.mapUpdate 192 (.map (some M)) (.int .i32 (b.toNat : Int)) (.bool true)).run Tryz.prog (wr.iterAt I (bT S) (k + 1)) = .ok () w' ∧ CntAt w w' M I (k + 1) S := by
  obtain ⟨D, n, hn, hown, hhas, hsz⟩ := h.map
  have hown2 : (wr.iterAt I (bT S) (k + 1)).ownsMap Tryz.prog 21 (plainElem Tryz.prog 4) M n D := ownsMap_same hown (Lib.iterAt_other wr I M (bT S) (k + 1) hMI)
  have hkey : keyOf Tryz.prog 21 (.int .i32 (b.toNat : Int)) = some (.int .i32 (b.toNat : Int)) := keyOf_int_mk Tryz.underlying21 (rune_wf b)
  obtain ⟨w', hrun, hown', hg⟩ := hown2.update (t := 192) (e := 4) runeLaw Tryz.underlying192 (by unfold maxLen; omega) hkey (plainElem_bool (H := Unit) Tryz.underlying4 true)
  refine ⟨w', hrun, ⟨?_, ?_, D.put (.int .i32 (b.toNat : Int)) (.lit (.bool true)), n + 1, by omega, hown', fun c => ?_, ?_⟩⟩
  · exact (Lib.below_iterAt h.below hI _ _).grown hg (Lib.below_iterAt h.below hI (bT S) (k + 1)).size (fun r e => by cases e; exact hM)
  · exact (hg.block I (Array.getElem?_eq_some_iff.1 (Lib.iterAt_heap wr _ _ _ _ h.iter)).1 (fun e => hMI (by cases e; rfl))).trans (Lib.iterAt_heap wr _ _ _ _ h.iter)
  · have ht : S.take (k + 1) = S.take k ++ [b] := by rw [List.take_add_one, hk]; rfl
    rw [ht]
    by_cases hc : c = b
    · subst hc
      rw [Maps.has_put_same hown.isMap (show WideAt.IsKeyLit (Lit.int .i32 _) from trivial)]
      simp
    · have hne : (Lit.int .i32 (c.toNat : Int)) ≠ .int .i32 (b.toNat : Int) := fun e => by
        injection e with _ e2
        exact hc (UInt8.toNat_inj.1 (by omega))
      rw [Maps.has_put_other hne, hhas]
      simp [hc]
  · have ht : S.take (k + 1) = S.take k ++ [b] := by rw [List.take_add_one, hk]; rfl
    rw [ht, cntL_snoc h1 h2, Maps.size_put (hown.tidy runeLaw), hsz]
    by_cases hb : b ∈ S.take k
    · rw [if_pos ((hhas b).2 hb), if_pos hb]
    · rw [if_neg (fun e => hb ((hhas b).1 e)), if_neg hb]
set_option maxRecDepth 100000 in
set_option maxHeartbeats 4000000 in
theorem implCount_any (ss : List Sc) (hF : Fair ss) (oa : Option Addr) (cap : Nat) (w : World) (hc : HoldsScopes w oa ss) (hE : TreeErrs w) :
    Calls Tryz.prog 86 #[.agg #[.slice oa ss.length cap]] w fun e w' => ∃ n : Int, e = .returned (.int .i64 n) ∧ cntR ss n ∧ Below w.heap.size w w' := by
  have hmm := @run_makeMap Tryz.prog
  have hb0 := (Below.refl w.heap.size w).alloc (Nat.le_refl _) (.cells #[.slice oa ss.length cap] 25)
  have C := Lib.hid (implOwnNames_any ss hF oa cap _ (hc.below hb0 (Nat.le_refl _)) (hE.below hb0 hE.size))
  have HB0 := Lib.hid hb0
  have g0 := (Row.new w [.slice oa ss.length cap] 25).cell (i := 0) (by rfl)
  clear hF hc hE hb0
  go_enter Tryz.func86, Tryz.ntmps86
  go_wp2_with fail
  refine C.out.mono ?_
  rintro e w1 ⟨T, ok, rfl, hv, hb⟩
  have HB := Lib.hid (HB0.out.trans (hb.mono HB0.out.size))
  clear hb g0
  rcases hv with ⟨hv, rfl, rfl⟩ | ⟨hv, rfl, rfl⟩
  · have HN := Lib.hid hv
    clear hv
    go_wp2
    go_ret
    exact ⟨_, rfl, .inl ⟨HN.out, rfl⟩, HB.out⟩
  · have HV := Lib.hid hv
    have HSB : Hid (∀ b ∈ ownT ss, 97 ≤ b.toNat ∧ b.toNat ≤ 122) := Lib.hid (ownS_bytes hv fun _ h => h)
    have hsl := own_small hv
    obtain ⟨S, hS⟩ : ∃ S, ownT ss = S := ⟨_, rfl⟩
    rw [hS] at HSB hsl ⊢
    have HSE := Lib.hid hS
    have HC0 : Hid (CntAt w ((w1.alloc (.map #[] 0)).iter (bT S) 0) w1.heap.size (w1.heap.size + 1) 0 S) := Lib.hid
      ⟨HB.out.trans ((((Below.refl w1.heap.size w1).alloc (Nat.le_refl _) (.map #[] 0)).alloc (by simp) (.stringIter (bT S) 0)).mono HB.out.size), by have := World.iter_heap (w1.alloc (.map #[] 0)) (bT S) 0; rw [World.size_alloc] at this; exact this,
       .map [], 0, Nat.le_refl _, (World.ownsMap_made (H := Unit) w1 Tryz.prog 21 (plainElem Tryz.prog 4)).alloc _, fun b => by rw [has_nil]; simp, by rw [List.take_zero, cntL_nil]; rfl⟩
    have HLM : Hid (w.heap.size ≤ w1.heap.size) := Lib.hid HB.out.size
    clear hv hS
    go_wp2
    go_loopw [7] (fun _ wr => ∃ k : Nat, k ≤ S.length ∧ Hid (CntAt w wr w1.heap.size (w1.heap.size + 1) k S)) (fun _ wr => S.length - wr.iterPos (w1.heap.size + 1))
    case atStart => exact ⟨0, Nat.zero_le _, HC0⟩
    case round =>
      obtain ⟨k, hk, HW⟩ := hrel
      by_cases hlt : k < S.length
      · obtain ⟨b, hbk⟩ : ∃ b, S[k]? = some b := ⟨_, List.getElem?_eq_getElem hlt⟩
        have hbb := HSB.out b (List.mem_of_getElem? hbk)
        have hnx := strI_next HW.out.iter hbk (by omega)
        obtain ⟨w', hrun, hc'⟩ := HW.out.put hbk hbb.1 hbb.2 HLM.out (by have := HLM.out; omega) (by omega) (by omega)
        have HC' := Lib.hid hc'
        clear hc' hbk hbb
        go_wp2
        go_roundw
        case rel => exact ⟨k + 1, by omega, HC'⟩
        case measure => rw [HC'.out.pos, HW.out.pos]; omega
      · obtain rfl : k = S.length := by omega
        have hnx := strI_end HW.out.iter hlt
        obtain ⟨D, n, hn, hown, hhas, hsz⟩ := HW.out.map
        have hlen := fun ty => hown.len (t := 192) (e := 4) Tryz.underlying192 ty
        rw [List.take_length] at hsz
        have HZ := Lib.hid hsz
        have HBE := Lib.hid HW.out.below
        clear hown hhas hsz
        go_wp2
        go_ret
        exact ⟨_, rfl, .inr ⟨HV.out, by rw [HZ.out, HSE.out]⟩, HBE.out⟩
set_option maxRecDepth 100000 in
set_option maxHeartbeats 4000000 in
theorem implIsFresh_any (ss : List Sc) (hF : Fair ss) (oa : Option Addr) (cap : Nat) (w : World) (hc : HoldsScopes w oa ss) (hE : TreeErrs w) :
    Calls Tryz.prog 28 #[.agg #[.slice oa ss.length cap]] w fun e w' => ∃ b : Bool, e = .returned (.bool b) ∧ frsR ss b ∧ Below w.heap.size w w' := by
  have hb0 := (Below.refl w.heap.size w).alloc (Nat.le_refl _) (.cells #[.slice oa ss.length cap] 25)
  have C := Lib.hid (implOwnNames_any ss hF oa cap _ (hc.below hb0 (Nat.le_refl _)) (hE.below hb0 hE.size))
  have HB0 := Lib.hid hb0
  have R0 := Lib.hid (Row.new w [.slice oa ss.length cap] 25)
  have g0 := R0.out.cell (i := 0) (by rfl)
  have C2 := Lib.hid (fun W (hW : Below w.heap.size w W) => implCount_any ss hF oa cap W (hc.below hW (Nat.le_refl _)) (hE.below hW hE.size))
  clear hF hc hE hb0
  go_enter Tryz.func28, Tryz.ntmps28
  go_wp2_with fail
  refine C.out.mono ?_
  rintro e w1 ⟨T, ok, rfl, hv, hb⟩
  have HB := Lib.hid (HB0.out.trans (hb.mono HB0.out.size))
  have g1 := (R0.out.below hb R0.out.lt).cell (i := 0) (by rfl)
  clear hb g0
  rcases hv with ⟨hv, rfl, rfl⟩ | ⟨hv, rfl, rfl⟩
  · have HN := Lib.hid hv
    clear hv
    go_wp2
    go_ret
    exact ⟨_, rfl, .inl ⟨HN.out, rfl⟩, HB.out⟩
  · have HV := Lib.hid hv
    have hbs := bT_size (ownT ss)
    clear hv
    go_wp2_with fail
    refine (C2.out _ HB.out).mono ?_
    rintro e w2 ⟨n, rfl, hn, hb2⟩
    have HB2 := Lib.hid (HB.out.trans (hb2.mono HB.out.size))
    have hn' : n = (cntL (ownT ss) : Int) := hn.same (.inr ⟨HV.out, rfl⟩)
    subst hn'
    have HQ : Hid (((cntL (ownT ss) : Int) == ((bT (ownT ss)).size : Int)) = decide (cntL (ownT ss) = (ownT ss).length)) := Lib.hid (by
      rw [hbs, Bool.eq_iff_iff]
      simp
      omega)
    clear hb2 hn hbs
    go_wp2
    go_ret
    exact ⟨_, rfl, .inr ⟨HV.out, HQ.out⟩, HB2.out⟩
end Go.Proofs.YtdmaaneilfjfcaaGreatDoor
namespace Go.Proofs.YtdmaaneilfjfcaaGreatDoor
open Go Go.RowKit
theorem ext_byte {names : ByteArray} {k : Nat} (h : k < names.size) : names.extract k (k + 1) = ⟨#[names[k]'h]⟩ := by
  have h1 : k < names.data.toList.length := by rw [Array.length_toList]; exact h
  rw [ext_one h]
  unfold nmK
  rw [if_neg (by omega), Int.toNat_natCast, List.getElem?_eq_getElem h1, Option.getD_some]
  rfl
set_option maxRecDepth 100000 in
set_option maxHeartbeats 4000000 in
theorem isNaming_any (names : ByteArray) (hs : names.size ≤ 1048576) (n : Nat) (w : World) :
    Calls Tryz.prog 138 #[.string names, .int .i64 (n : Int)] w fun e w' => ∃ b : Bool, e = .returned (.bool b) ∧ (b = true ↔ Naming names n) ∧ w' = w := by
  have hlen : names.data.toList.length = names.size := by rw [Array.length_toList]; rfl
  have HL := Lib.hid hlen
  clear hlen
  by_cases hn : names.size = n
  · have e1 : ((names.size : Int) != (n : Int)) = false := by simp [hn]
    have e2 : ((names.size : Int) == (n : Int)) = true := by simp [hn]
    have HN := Lib.hid hn
    clear hn
    go_enter Tryz.func138, Tryz.ntmps138
    go_wp2
    go_loopw [13] (fun i wr => ∃ k : Nat, i = .int .i64 k ∧ k ≤ names.size ∧ wr = w ∧ Hid (∀ (j : Nat) (b : UInt8), j < k → names.data.toList[j]? = some b → 97 ≤ b.toNat ∧ b.toNat ≤ 121)) (fun i _ => names.size - (intOf i).toNat)
    case atStart => exact ⟨0, rfl, Nat.zero_le _, rfl, Lib.hid (fun j b h => by omega)⟩
    case round =>
      obtain ⟨k, rfl, hk, rfl, hP⟩ := hrel
      by_cases hkl : k < names.size
      · have hkl' : k < names.data.toList.length := by rw [HL.out]; exact hkl
        have hsk : names.data.toList[k]'hkl' = names[k]'hkl := rfl
        have hext := ext_byte hkl
        obtain ⟨c, hce⟩ : ∃ c, names[k]'hkl = c := ⟨_, rfl⟩
        rw [hce] at hext
        have HCC : Hid (names.data.toList[k]? = some c) := Lib.hid (by rw [List.getElem?_eq_getElem hkl', hsk, hce])
        have hwr : IntKind.i64.wrap ((k : Int) + 1) = (k : Int) + 1 := wrap_small _ (by omega) (by omega)
        have hn1 : (k : Int) + 1 ≤ (names.size : Int) := by omega
        have hn2 : (k : Int) ≤ (k : Int) + 1 := by omega
        have hn3 : (0 : Int) ≤ (k : Int) := by omega
        have ht1 : ((k : Int) + 1).toNat = k + 1 := by omega
        obtain ⟨q, hq⟩ : ∃ q, nameB ⟨#[c]⟩ = q := ⟨_, rfl⟩
        have HQ := Lib.hid hq
        have CA := Lib.hid (fun W => isName_any ⟨#[c]⟩ W)
        rw [hq] at CA
        clear hq hsk hce
        go_wp2_with fail
        refine (CA.out _).mono ?_
        rintro e w3 ⟨rfl, rfl⟩
        cases q
        · have HB : Hid (¬ Naming names n) := Lib.hid (fun h => by
            have h1 := h.2 c (List.mem_of_getElem? HCC.out)
            have h2 := nameB_byte h1.1 (by omega)
            have h3 := HQ.out
            rw [h2] at h3
            cases h3)
          go_wp2
          go_ret
          exact ⟨false, rfl, ⟨fun h => (by cases h), fun h => absurd h HB.out⟩, rfl⟩
        · obtain ⟨q2, hq2⟩ : ∃ q2, (c == 122) = q2 := ⟨_, rfl⟩
          have HQ2 : Hid (q2 = true ↔ c = 122) := Lib.hid (by rw [← hq2]; simp)
          cases q2
          · have HP2 : Hid (∀ (j : Nat) (b : UInt8), j < k + 1 → names.data.toList[j]? = some b → 97 ≤ b.toNat ∧ b.toNat ≤ 121) := Lib.hid (fun j b hj hb => by
              by_cases e : j = k
              · subst e
                rw [HCC.out] at hb
                cases hb
                have h2 := HQ.out
                have h3 : c ≠ 122 := fun e => by have := HQ2.out.2 e; cases this
                have h4 : c.toNat ≠ 122 := fun e => h3 (UInt8.toNat_inj.1 e)
                unfold nameB inB at h2
                simp at h2
                omega
              · exact hP.out j b (by omega) hb)
            go_wp2
            go_roundw
            case rel => exact ⟨k + 1, by go_num, by omega, by first | rfl | trivial, HP2⟩
            case measure => simp only [intOf]; omega
          · have HB : Hid (¬ Naming names n) := Lib.hid (fun h => by
              have h1 := h.2 c (List.mem_of_getElem? HCC.out)
              have h2 := HQ2.out.1 rfl
              subst h2
              have : (122 : UInt8).toNat = 122 := rfl
              omega)
            go_wp2
            go_ret
            exact ⟨false, rfl, ⟨fun h => (by cases h), fun h => absurd h HB.out⟩, rfl⟩
      · obtain rfl : k = names.size := by omega
        have HY : Hid (Naming names n) := Lib.hid ⟨HN.out, fun b hb => by
          obtain ⟨j, hj⟩ := List.mem_iff_getElem?.1 hb
          have hjl := (List.getElem?_eq_some_iff.1 hj).1
          exact hP.out j b (by have := HL.out; omega) hj⟩
        go_wp2
        go_ret
        exact ⟨true, rfl, ⟨fun _ => HY.out, fun _ => rfl⟩, rfl⟩
  · have e1 : ((names.size : Int) != (n : Int)) = true := by simp; omega
    have e2 : ((names.size : Int) == (n : Int)) = false := by simp; omega
    go_enter Tryz.func138, Tryz.ntmps138
    go_wp2
    go_ret
    exact ⟨false, rfl, ⟨fun h => (by cases h), fun h => absurd h.1 hn⟩, rfl⟩
set_option maxRecDepth 100000 in
theorem renaming_any {ss : List Sc} {names : ByteArray} (hok : nmgOk ss names) {w : World} {G : Nat} (hG : Row w G 142 (tblL (tabF ss))) :
    Calls Tryz.prog 140 #[.pointer (some ⟨G, 0, none⟩), .string names] w fun e w' => ∃ u, e = .returned u ∧ RenOn ss w' u (nmgF ss names) ∧ Below w.heap.size w w' := by
  have hb := ((Below.refl w.heap.size w).alloc (Nat.le_refl _) (.cells #[.pointer (some ⟨G, 0, none⟩)] 233)).alloc (by simp) (.cells #[.string names] 9)
  have R1 := Lib.hid ((Row.new w [.pointer (some ⟨G, 0, none⟩)] 233).alloc (.cells #[.string names] 9))
  have R2 := Lib.hid (Row.new (w.alloc (.cells #[.pointer (some ⟨G, 0, none⟩)] 233)) [.string names] 9)
  have HB := Lib.hid hb
  have HG := Lib.hid (hG.below hb hG.lt)
  have HOK := Lib.hid hok
  clear hb hG hok
  go_enter Tryz.func140, Tryz.ntmps140
  go_wp2
  go_ret
  refine ⟨_, rfl, ⟨_, _, rfl, enters_of Tryz.func171 (by kernel_rfl) rfl, fun i j s x W hs hx hW => ?_⟩, HB.out⟩
  have hv := HOK.out.1.1
  have hi := (List.getElem?_eq_some_iff.1 hs).1
  have hj := (List.getElem?_eq_some_iff.1 hx).1
  have h6 := hv.count.2
  have h5 := hv.five s (List.mem_of_getElem? hs)
  have hq := placed_of hs hx
  have hcl := HOK.out.1.2 _ hq
  have hdc := mean_dcl hv hq
  have hsz := HOK.out.2.1
  have h30 : names.size ≤ 30 := by
    have h1 := plsOf_length 1 (placed 0 ss)
    have h2 := placed_bound 0 ss 6 5 hv.count.2 hv.five
    unfold dclP plsP at hsz
    omega
  refine rnm1_any i j _ _ (by omega) (by omega) (tabF ss) names x.name (nmgF ss names i j x.name) W (HG.out.below hW HG.out.lt) (R1.out.below hW R1.out.lt) ((by have h := R2.out; rw [World.size_alloc] at h; exact h : Row _ (w.heap.size + 1) 9 _).below hW (by simp)) ?_ (by omega)
  have e1 : (i * 5 + j) / 5 = i := by omega
  have e2 : (i * 5 + j) % 5 = j := by omega
  unfold tabF tabT nmgF
  rw [e1, e2, meanAt_of hq]
  cases hm : meanIt ss (i, j, x) with
  | nil => exact .inl ⟨rfl, rfl⟩
  | cons d r =>
    cases r with
    | cons d2 r2 => rw [hm] at hcl; simp at hcl
    | nil =>
      rw [hm] at hdc
      have hp0 := posOf_mem (hdc d (by simp))
      have hr := posOf_range (dclP ss) d
      have hk : (posOf (dclP ss) d).toNat < names.size := by omega
      have hb := HOK.out.2.2 (names[(posOf (dclP ss) d).toNat]'hk) (List.getElem_mem (l := names.data.toList) (by rw [Array.length_toList]; exact hk))
      refine .inr ⟨(posOf (dclP ss) d).toNat, ?_, hk, hb.1, by omega, ?_⟩
      · show posOf (dclP ss) d + 1 = _
        omega
      · show nmK names (posOf (dclP ss) d) = _
        rw [← ext_byte hk, ext_one hk]
        congr 1
        omega
end Go.Proofs.YtdmaaneilfjfcaaGreatDoor
namespace Go.Proofs.YtdmaaneilfjfcaaGreatDoor
open Go Go.RowKit
/-- The package-level errors of namings hold errors. -/
structure NmgErrs (w : World) : Prop where
  trees : TreeErrs w
  several : IsErr w 2
  naming : IsErr w 3
theorem NmgErrs.at {w w' : World} (h : NmgErrs w) (hb : Below w.heap.size w w') : NmgErrs w' where
  trees := h.trees.at hb
  several := h.several.below hb (Nat.lt_of_lt_of_le (by decide) h.trees.size)
  naming := h.naming.below hb (Nat.lt_of_lt_of_le (by decide) h.trees.size)
theorem wpIn_load_row {P : Program} {F : Fence} {n : Nat} {w : World} {o : Oper} {a : Act} {K : Act → World → Prop} {Q : Exit → Act → World → Prop} (ty : TypeId) (x : Operand) (ho : o.op = .load ty x) (hab : o.about P w a.eval = none)
    (g : Nat) (hx : a.eval x = .pointer (some ⟨g, 0, none⟩)) (t : TypeId) (cs : Array Value) (fr : Nat × Nat) (d : TypeDesc) (hg : w.heap[g]? = some (.cells cs t fr))
    (hu : P.underlying ty = some d) (hd : (match d with | .struct _ | .array _ _ => true | _ => false) = true) (hi : (P.info? ty).map (·.size) = some cs.size)
    (h : K (a.put o.dst (.agg cs)) w) : o.wpIn F n P a w K Q := by
  refine ⟨fun f hf => (by rw [hab] at hf; cases hf), ?_⟩
  rw [Oper.semAt_eq _ _ _ (fun c => by rw [ho]; exact fun h => by cases h)]
  unfold execOp
  simp only [ho, hx, Instr.loadAt, Instr.sureAddr, Sem.run_bind, Sem.run_pure, Result.andThen_ok, run_loadVar_row w g t ty cs fr d hg hu hd hi]
  exact h
theorem exec_load_row {P : Program} {w : World} {o : Oper} {a : Act} (ty : TypeId) (x : Operand) (ho : o.op = .load ty x)
    (g : Nat) (hx : a.eval x = .pointer (some ⟨g, 0, none⟩)) (t : TypeId) (cs : Array Value) (fr : Nat × Nat) (d : TypeDesc) (hg : w.heap[g]? = some (.cells cs t fr))
    (hu : P.underlying ty = some d) (hd : (match d with | .struct _ | .array _ _ => true | _ => false) = true) (hi : (P.info? ty).map (·.size) = some cs.size) : (execOp a.eval o).run P w = .ok (.value (.agg cs)) w := by
  unfold execOp
  simp only [ho, hx, Instr.loadAt, Instr.sureAddr, Sem.run_bind, Sem.run_pure, Result.andThen_ok, run_loadVar_row w g t ty cs fr d hg hu hd hi]
theorem wpIn_store_row {P : Program} {F : Fence} {n : Nat} {w : World} {o : Oper} {a : Act} {K : Act → World → Prop} {Q : Exit → Act → World → Prop} (ty : TypeId) (x y : Operand) (ho : o.op = .store ty x y) (hab : o.about P w a.eval = none)
    (g : Nat) (cells : Array Value) (hx : a.eval x = .pointer (some ⟨g, 0, none⟩)) (hy : a.eval y = .agg cells)
    (t : TypeId) (old : Array Value) (hg : w.heap[g]? = some (.cells old t (0, 0))) (hi : (P.info? ty).map (·.size) = some cells.size)
    (hold : old.size = cells.size) (h1 : cells.all (·.oneCell') = true)
    (h : K (a.put o.dst undef) (w.setRow g cells)) : o.wpIn F n P a w K Q := by
  refine ⟨fun f hf => (by rw [hab] at hf; cases hf), ?_⟩
  rw [Oper.semAt_eq _ _ _ (fun c => by rw [ho]; exact fun h => by cases h)]
  unfold execOp
  simp only [ho, hx, hy, Instr.storeAt, Instr.sureAddr, Sem.run_bind, Sem.run_pure, Result.andThen_ok, run_storeVar_row w g t ty old cells hg hi hold h1]
  exact h
theorem built_table : Tryz.prog.built 142 [] = some #[.int .i64 0, .int .i64 0, .int .i64 0, .int .i64 0, .int .i64 0, .int .i64 0, .int .i64 0, .int .i64 0, .int .i64 0, .int .i64 0, .int .i64 0, .int .i64 0, .int .i64 0, .int .i64 0, .int .i64 0, .int .i64 0, .int .i64 0, .int .i64 0, .int .i64 0, .int .i64 0, .int .i64 0, .int .i64 0, .int .i64 0, .int .i64 0, .int .i64 0, .int .i64 0, .int .i64 0, .int .i64 0, .int .i64 0, .int .i64 0] := by kernel_rfl
theorem tbl_zero : (#[.int .i64 0, .int .i64 0, .int .i64 0, .int .i64 0, .int .i64 0, .int .i64 0, .int .i64 0, .int .i64 0, .int .i64 0, .int .i64 0, .int .i64 0, .int .i64 0, .int .i64 0, .int .i64 0, .int .i64 0, .int .i64 0, .int .i64 0, .int .i64 0, .int .i64 0, .int .i64 0, .int .i64 0, .int .i64 0, .int .i64 0, .int .i64 0, .int .i64 0, .int .i64 0, .int .i64 0, .int .i64 0, .int .i64 0, .int .i64 0] : Array Value) = (tblL fun _ => 0).toArray := rfl
theorem ownsRow_setRowN {w : World} {B : Nat} {e : TypeId} {v : Value} {n T size : Nat} {xs : List Value} {t : TypeId} {cs : Array Value} (h : w.ownsRow B e size v n xs) (hT : w.heap[T]? = some (.cells cs t (0, 0))) (ht : t ≠ e) (arr : Array Value) : (w.setRow T arr).ownsRow B e size v n xs := by
  obtain ⟨hl, h2 | ⟨g, cap, cur, hv, hB, hh, hr⟩⟩ := h
  · exact ⟨hl, .inl h2⟩
  · refine ⟨hl, .inr ⟨g, cap, cur, hv, hB, ?_, hr⟩⟩
    rw [setRow_other _ _ _ _ (show g ≠ T from ?_)]
    · exact hh
    · rintro rfl
      rw [hT] at hh
      simp at hh
      exact ht hh.2
/-- What withNames answers. -/
def WithGot (ss : List Sc) (names : ByteArray) (w : World) (e : Ending) (w' : World) : Prop :=
  (¬ nmgOk ss names ∧ (∃ tp p, e = .returned (.tuple #[.agg #[.slice none 0 0], .agg (tblL fun _ => 0).toArray, .iface tp p])) ∧ Below w.heap.size w w') ∨
  (nmgOk ss names ∧ ∃ v hs, e = .returned (.tuple #[.agg #[v], .agg (tblL (tabF ss)).toArray, .nilIface]) ∧ OwnGr w' w.heap.size v (nmgG ss names) hs ∧ Below w.heap.size w w')
/-- The table tells whether an item means several declarations. -/
theorem clear_table {ss : List Sc} (hv : Valid ss) : (∃ k, k < 30 ∧ tabF ss k = -1) ↔ ¬ Clear ss := by
  constructor
  · rintro ⟨k, -, hk⟩ hc
    exact clear_tab.1 hc _ _ hk
  · intro hc
    refine Classical.byContradiction fun hn => hc (fun q hq => ?_)
    obtain ⟨i, j, x⟩ := q
    obtain ⟨s, h1, h2⟩ := placed_at hq
    dsimp only at h1 h2
    have a1 := (List.getElem?_eq_some_iff.1 h1).1
    have a2 := (List.getElem?_eq_some_iff.1 h2).1
    have a3 := hv.count.2
    have a4 := hv.five s (List.mem_of_getElem? h1)
    have e1 : (i * 5 + j) / 5 = i := by omega
    have e2 : (i * 5 + j) % 5 = j := by omega
    refine Nat.not_lt.1 fun hlt => hn ⟨i * 5 + j, by omega, ?_⟩
    unfold tabF tabT
    rw [e1, e2, meanAt_of hq]
    exact boundT_several.2 hlt
set_option maxRecDepth 100000 in
set_option maxHeartbeats 16000000 in
theorem withNames_any (ss : List Sc) (hF : Fair ss) (oa : Option Addr) (cap : Nat) (names : ByteArray) (hns : names.size ≤ 1048576) (w : World) (hc : HoldsScopes w oa ss) (hE : NmgErrs w) :
    Calls Tryz.prog 88 #[.agg #[.slice oa ss.length cap], .string names] w (WithGot ss names w) := by
  have hb0 : Below w.heap.size w (((w.alloc (.cells #[.slice oa ss.length cap] 25)).alloc (.cells #[.slice none 0 0] 25)).alloc (.cells #[.int .i64 0, .int .i64 0, .int .i64 0, .int .i64 0, .int .i64 0, .int .i64 0, .int .i64 0, .int .i64 0, .int .i64 0, .int .i64 0, .int .i64 0, .int .i64 0, .int .i64 0, .int .i64 0, .int .i64 0, .int .i64 0, .int .i64 0, .int .i64 0, .int .i64 0, .int .i64 0, .int .i64 0, .int .i64 0, .int .i64 0, .int .i64 0, .int .i64 0, .int .i64 0, .int .i64 0, .int .i64 0, .int .i64 0, .int .i64 0] 142)) := (((Below.refl _ _).alloc (Nat.le_refl _) _).alloc (by simp) _).alloc (by simp; omega) _
  have R1 := Lib.hid (((Row.new w [.slice oa ss.length cap] 25).alloc (.cells #[.slice none 0 0] 25)).alloc (.cells #[.int .i64 0, .int .i64 0, .int .i64 0, .int .i64 0, .int .i64 0, .int .i64 0, .int .i64 0, .int .i64 0, .int .i64 0, .int .i64 0, .int .i64 0, .int .i64 0, .int .i64 0, .int .i64 0, .int .i64 0, .int .i64 0, .int .i64 0, .int .i64 0, .int .i64 0, .int .i64 0, .int .i64 0, .int .i64 0, .int .i64 0, .int .i64 0, .int .i64 0, .int .i64 0, .int .i64 0, .int .i64 0, .int .i64 0, .int .i64 0] 142))
  have R2 := (Row.new (w.alloc (.cells #[.slice oa ss.length cap] 25)) [.slice none 0 0] 25).alloc (.cells #[.int .i64 0, .int .i64 0, .int .i64 0, .int .i64 0, .int .i64 0, .int .i64 0, .int .i64 0, .int .i64 0, .int .i64 0, .int .i64 0, .int .i64 0, .int .i64 0, .int .i64 0, .int .i64 0, .int .i64 0, .int .i64 0, .int .i64 0, .int .i64 0, .int .i64 0, .int .i64 0, .int .i64 0, .int .i64 0, .int .i64 0, .int .i64 0, .int .i64 0, .int .i64 0, .int .i64 0, .int .i64 0, .int .i64 0, .int .i64 0] 142)
  have R3 := Row.new ((w.alloc (.cells #[.slice oa ss.length cap] 25)).alloc (.cells #[.slice none 0 0] 25)) [.int .i64 0, .int .i64 0, .int .i64 0, .int .i64 0, .int .i64 0, .int .i64 0, .int .i64 0, .int .i64 0, .int .i64 0, .int .i64 0, .int .i64 0, .int .i64 0, .int .i64 0, .int .i64 0, .int .i64 0, .int .i64 0, .int .i64 0, .int .i64 0, .int .i64 0, .int .i64 0, .int .i64 0, .int .i64 0, .int .i64 0, .int .i64 0, .int .i64 0, .int .i64 0, .int .i64 0, .int .i64 0, .int .i64 0, .int .i64 0] 142
  rw [World.size_alloc] at R2
  rw [World.size_alloc, World.size_alloc] at R3
  have R2 := Lib.hid R2
  have R3 := Lib.hid (show Row (((w.alloc (.cells #[.slice oa ss.length cap] 25)).alloc (.cells #[.slice none 0 0] 25)).alloc (.cells #[.int .i64 0, .int .i64 0, .int .i64 0, .int .i64 0, .int .i64 0, .int .i64 0, .int .i64 0, .int .i64 0, .int .i64 0, .int .i64 0, .int .i64 0, .int .i64 0, .int .i64 0, .int .i64 0, .int .i64 0, .int .i64 0, .int .i64 0, .int .i64 0, .int .i64 0, .int .i64 0, .int .i64 0, .int .i64 0, .int .i64 0, .int .i64 0, .int .i64 0, .int .i64 0, .int .i64 0, .int .i64 0, .int .i64 0, .int .i64 0] 142)) (w.heap.size + 1 + 1) 142 (tblL fun _ => 0) from R3)
  have C := Lib.hid (resolutionOf_any ss hF oa cap _ (hc.below hb0 (Nat.le_refl _)) (hE.at hb0).trees)
  have HB := Lib.hid hb0
  have HC := Lib.hid hc
  have HF := Lib.hid hF
  have HE := Lib.hid hE
  have HSZ := Lib.hid hE.trees.size
  have hbd := fun W => run_build (P := Tryz.prog) W 142 #[] #[.int .i64 0, .int .i64 0, .int .i64 0, .int .i64 0, .int .i64 0, .int .i64 0, .int .i64 0, .int .i64 0, .int .i64 0, .int .i64 0, .int .i64 0, .int .i64 0, .int .i64 0, .int .i64 0, .int .i64 0, .int .i64 0, .int .i64 0, .int .i64 0, .int .i64 0, .int .i64 0, .int .i64 0, .int .i64 0, .int .i64 0, .int .i64 0, .int .i64 0, .int .i64 0, .int .i64 0, .int .i64 0, .int .i64 0, .int .i64 0] built_table
  have g1 := R1.out.cell (i := 0) (v := .slice oa ss.length cap) (by rfl)
  clear hb0 hF hc hE
  go_enter Tryz.func88, Tryz.ntmps88
  go_wp2_with fail
  refine C.out.mono ?_
  rintro e w1 (⟨hv, ⟨tp, p, rfl⟩, hb1⟩ | ⟨hv, R, T, M1, M2, MR, v, ds, l, rfl, hb1, hR⟩)
  · have HN : Hid (¬ nmgOk ss names) := Lib.hid (fun h => hv h.1.1)
    have HB1 := Lib.hid (HB.out.trans (hb1.mono HB.out.size))
    have R2a := Lib.hid (R2.out.below hb1 R2.out.lt)
    have R3a := Lib.hid (R3.out.below hb1 R3.out.lt)
    have n0 := R2a.out.cell (i := 0) (v := .slice none 0 0) (by rfl)
    have f0 := R2a.out.frozen 0
    have hs0 : Row (w1.setCell ⟨w.heap.size + 1, 0, none⟩ (.slice none 0 0)) (w.heap.size + 1 + 1) 142 (tblL fun _ => 0) := R3a.out.other (a := ⟨w.heap.size + 1, 0, none⟩) (by show w.heap.size + 1 ≠ w.heap.size + 1 + 1; omega) _
    have RT := R2a.out.set 0 (.slice none 0 0)
    clear hv hb1 g1
    unfold Row at hs0
    go_wp2_with (refine wpList_store_row rfl 142 _ _ rfl (w.heap.size + 1 + 1) (tblL fun _ => 0).toArray rfl rfl 142 _ hs0 (tblL_info (fun _ => 0)) (by simp [tblL_length]) (tblL_one _) ?_)
    have hg := run_loadVar_row (P := Tryz.prog) _ (w.heap.size + 1) 25 25 _ (0, 0) _ ((setRow_other _ _ _ _ (by omega)).trans RT : ((w1.setCell ⟨w.heap.size + 1, 0, none⟩ (.slice none 0 0)).setRow (w.heap.size + 1 + 1) (tblL fun _ => 0).toArray).heap[w.heap.size + 1]? = _) Tryz.underlying25 rfl (by kernel_rfl)
    have hl := run_loadVar_row (P := Tryz.prog) _ (w.heap.size + 1 + 1) 142 142 _ (0, 0) _ (setRow_heap _ _ _ (tblL fun _ => 0).toArray _ _ hs0) Tryz.underlying142 rfl (tblL_info _)
    refine bodyPost_ret (v := .tuple #[.agg #[.slice none 0 0], .agg (tblL fun _ => 0).toArray, .iface tp p]) (by simp [results, Tryz.results88, asAddr, hg, hl]) rfl (.inl ⟨HN.out, ⟨tp, p, rfl⟩, ?_⟩)
    exact (HB1.out.setCell (by simp) _).trans (below_setRow _ _ _ (by omega))
  · have HV := Lib.hid hv
    have HRR := Lib.hid hR
    have HB1 := Lib.hid (HB.out.trans (hb1.mono HB.out.size))
    have R1a := Lib.hid (R1.out.below hb1 R1.out.lt)
    have R2a := Lib.hid (R2.out.below hb1 R2.out.lt)
    have R3a := Lib.hid (R3.out.below hb1 R3.out.lt)
    have C2 := Lib.hid (bindings_any hv hR)
    clear hv hb1 hR g1
    go_wp2_with fail
    refine C2.out.mono ?_
    rintro e w2 ⟨rfl, hb2⟩
    have hs9 := Row.new w2 [.int .i64 0, .int .i64 0, .int .i64 0, .int .i64 0, .int .i64 0, .int .i64 0, .int .i64 0, .int .i64 0, .int .i64 0, .int .i64 0, .int .i64 0, .int .i64 0, .int .i64 0, .int .i64 0, .int .i64 0, .int .i64 0, .int .i64 0, .int .i64 0, .int .i64 0, .int .i64 0, .int .i64 0, .int .i64 0, .int .i64 0, .int .i64 0, .int .i64 0, .int .i64 0, .int .i64 0, .int .i64 0, .int .i64 0, .int .i64 0] 142
    have hbG := (Below.refl w2.heap.size w2).alloc (Nat.le_refl _) (.cells #[.int .i64 0, .int .i64 0, .int .i64 0, .int .i64 0, .int .i64 0, .int .i64 0, .int .i64 0, .int .i64 0, .int .i64 0, .int .i64 0, .int .i64 0, .int .i64 0, .int .i64 0, .int .i64 0, .int .i64 0, .int .i64 0, .int .i64 0, .int .i64 0, .int .i64 0, .int .i64 0, .int .i64 0, .int .i64 0, .int .i64 0, .int .i64 0, .int .i64 0, .int .i64 0, .int .i64 0, .int .i64 0, .int .i64 0, .int .i64 0] 142)
    have hbS := hbG.trans (below_setRow _ w2.heap.size (tblL (tabF ss)).toArray (Nat.le_refl _))
    have HG := Lib.hid (show Row ((w2.alloc (.cells #[.int .i64 0, .int .i64 0, .int .i64 0, .int .i64 0, .int .i64 0, .int .i64 0, .int .i64 0, .int .i64 0, .int .i64 0, .int .i64 0, .int .i64 0, .int .i64 0, .int .i64 0, .int .i64 0, .int .i64 0, .int .i64 0, .int .i64 0, .int .i64 0, .int .i64 0, .int .i64 0, .int .i64 0, .int .i64 0, .int .i64 0, .int .i64 0, .int .i64 0, .int .i64 0, .int .i64 0, .int .i64 0, .int .i64 0, .int .i64 0] 142)).setRow w2.heap.size (tblL (tabF ss)).toArray) w2.heap.size 142 (tblL (tabF ss)) from setRow_heap _ _ _ _ _ _ hs9)
    have HB4 := Lib.hid (hb2.trans (hbS.mono hb2.size))
    have HB24 := Lib.hid hb2.size
    clear hb2 hbG hbS
    unfold Row at hs9
    go_wp2_with (refine wpList_store_row rfl 142 _ _ rfl w2.heap.size (tblL (tabF ss)).toArray rfl rfl 142 _ hs9 (tblL_info (fun _ => 0)) (by simp [tblL_length]) (tblL_one _) ?_)
    clear hs9
    generalize (w2.alloc (.cells #[.int .i64 0, .int .i64 0, .int .i64 0, .int .i64 0, .int .i64 0, .int .i64 0, .int .i64 0, .int .i64 0, .int .i64 0, .int .i64 0, .int .i64 0, .int .i64 0, .int .i64 0, .int .i64 0, .int .i64 0, .int .i64 0, .int .i64 0, .int .i64 0, .int .i64 0, .int .i64 0, .int .i64 0, .int .i64 0, .int .i64 0, .int .i64 0, .int .i64 0, .int .i64 0, .int .i64 0, .int .i64 0, .int .i64 0, .int .i64 0] 142)).setRow w2.heap.size (tblL (tabF ss)).toArray = w4 at *
    have HGB : Hid (w.heap.size + 1 + 1 < w2.heap.size) := Lib.hid (Nat.lt_of_lt_of_le R3a.out.lt HB24.out)
    generalize w2.heap.size = G at *
    have HBX := Lib.hid (HB1.out.trans (HB4.out.mono HB1.out.size))
    refine (has_any HG.out (-1)).mono ?_
    rintro e w5 ⟨b, rfl, hb, hb5⟩
    have HCB := Lib.hid hb
    have HB5 := Lib.hid (HB4.out.trans (hb5.mono HB4.out.size))
    have HG5 := Lib.hid (HG.out.below hb5 HG.out.lt)
    have HBQ := Lib.hid (HB1.out.trans (HB5.out.mono HB1.out.size))
    have R1b := Lib.hid (R1a.out.below HB5.out R1a.out.lt)
    have RQ2 := Lib.hid (R2a.out.below HB5.out R2a.out.lt)
    have RQ3 := Lib.hid (R3a.out.below HB5.out R3a.out.lt)
    have HR5 := Lib.hid (HRR.out.below HB5.out)
    clear hb hb5
    cases b
    · have HCL : Hid (Clear ss) := Lib.hid (Classical.byContradiction fun h => by have := HCB.out.2 ((clear_table HV.out).2 h); cases this)
      have r0 := HR5.out.box.cell (i := 0) (v := .pointer (some ⟨T, 0, none⟩)) (by rfl)
      have hl30 := own_small HV.out
      have hbs := bT_size (ownT ss)
      have C6 := Lib.hid (treeOwn_any HV.out HR5.out.tree)
      go_wp2_with fail
      refine C6.out.mono ?_
      rintro e w6 ⟨rfl, hb6⟩
      have HB6 := Lib.hid (HB5.out.trans (hb6.mono HB5.out.size))
      have HG6 := Lib.hid (HG5.out.below hb6 HG5.out.lt)
      have HBQ := Lib.hid (HBQ.out.trans (hb6.mono HBQ.out.size))
      have R1c := Lib.hid (R1b.out.below hb6 R1b.out.lt)
      have RQ2 := Lib.hid (RQ2.out.below hb6 RQ2.out.lt)
      have RQ3 := Lib.hid (RQ3.out.below hb6 RQ3.out.lt)
      have C7 := Lib.hid (isNaming_any names hns (dclP ss).length w6)
      have HLL : Hid ((bT (ownT ss)).size = (dclP ss).length) := Lib.hid (by rw [hbs, ownT_length HV.out])
      rw [← HLL.out] at C7
      clear hb6 r0 hbs
      go_wp2_with fail
      refine C7.out.mono ?_
      rintro e w7 ⟨b2, rfl, hb2, rfl⟩
      have HNB := Lib.hid hb2
      clear hb2
      cases b2
      · have HN : Hid (¬ nmgOk ss names) := Lib.hid (fun h => by have := HNB.out.2 (by rw [HLL.out]; exact h.2); cases this)
        obtain ⟨tp, p, he⟩ := (HE.out.at HBQ.out).naming
        have hRT := RQ3.out
        unfold Row at hRT
        have hsz := HSZ.out
        go_wp2
        refine wp_region_kept (S := fun w' => w'.cell? ⟨3, 0, none⟩ = some (.iface tp p) ∧ w'.heap[w.heap.size + 1 + 1]? = some (.cells (tblL fun _ => 0).toArray 142 (0, 0))) 5 (by kernel_rfl) ?_
        have hS0 := And.intro (cell_drew he) (show w7.drew.heap[w.heap.size + 1 + 1]? = _ from hRT)
        refine KeptAny.take (i := 0) (v := ?_) (by kernel_rfl) rfl rfl (by kernel_rfl) (by kernel_rfl) (by kernel_rfl) (fun _ _ _ h => h) (by rfl) (fun w' hw' => ?_) (fun _ => rfl) hS0 ?_
        rotate_left
        · (obtain ⟨g0, g1⟩ := hw'; go_simp; try with_reducible rfl)
        refine KeptAny.take (i := 1) (v := ?_) (by kernel_rfl) rfl rfl (by kernel_rfl) (by kernel_rfl) (by kernel_rfl) (fun _ _ _ h => h) (by rfl) (fun w' hw' => ?_) (fun _ => rfl) hS0 ?_
        rotate_left
        · (obtain ⟨g0, g1⟩ := hw'; go_simp; try with_reducible rfl)
        refine KeptAny.take (i := 2) (v := ?_) (by kernel_rfl) rfl rfl (by kernel_rfl) (by kernel_rfl) (by kernel_rfl) (fun _ _ _ h => h) (by rfl) (fun w' hw' => ?_) (fun _ => rfl) hS0 ?_
        rotate_left
        · (obtain ⟨g0, g1⟩ := hw'; go_simp; try with_reducible rfl)
        have n0 := (RQ2.out.drew).cell (i := 0) (v := .slice none 0 0) (by rfl)
        have f0 := (RQ2.out.drew).frozen 0
        have RT := RQ2.out.drew.set 0 (.slice none 0 0)
        have HS1 := Lib.hid (And.intro ((cell_farR (by have := hsz; omega) 0 _ (o := 0)).trans hS0.1 : (w7.drew.setCell ⟨w.heap.size + 1, 0, none⟩ (.slice none 0 0)).cell? ⟨3, 0, none⟩ = _) ((Below.heap_setCell _ _ _ _ (by show w.heap.size + 1 + 1 ≠ w.heap.size + 1; omega)).trans hS0.2 : (w7.drew.setCell ⟨w.heap.size + 1, 0, none⟩ (.slice none 0 0)).heap[w.heap.size + 1 + 1]? = _))
        clear hS0 he hRT
        refine KeptAny.one (i := 3) (by kernel_rfl) rfl (by rfl) (fun K hK => ?_)
        go_simp
        refine hK.out _ _ HS1.out (fun _ => ?_)
        clear hK
        refine KeptAny.one (i := 4) (by kernel_rfl) rfl (by rfl) (fun K hK => ?_)
        refine wpIn_store_row 142 _ _ rfl (by rfl) (w.heap.size + 1 + 1) (tblL fun _ => 0).toArray rfl rfl 142 _ HS1.out.2 (tblL_info (fun _ => 0)) (by simp [tblL_length]) (tblL_one _) ?_
        have hsr := setRow_heap _ _ _ (tblL fun _ => 0).toArray _ _ HS1.out.2
        refine hK.out _ _ ⟨(cell_setRow_other _ _ _ _ (by have := hsz; show (3 : Nat) ≠ w.heap.size + 1 + 1; omega)).trans HS1.out.1, hsr⟩ (fun _ => ?_)
        clear hK
        refine KeptAny.last (by kernel_rfl) rfl (by rfl) (fun K hK => ?_)
        go_simp
        refine hK.out _ _ ?_
        clear hK
        refine KeptAny.done (by kernel_rfl) ?_ _
        have hg := run_loadVar_row (P := Tryz.prog) _ (w.heap.size + 1) 25 25 _ (0, 0) _ ((setRow_other _ _ _ _ (by omega)).trans RT : (((w7.setCell ⟨w.heap.size + 1, 0, none⟩ (.slice none 0 0)).drew).setRow (w.heap.size + 1 + 1) (tblL fun _ => 0).toArray).heap[w.heap.size + 1]? = _) Tryz.underlying25 rfl (by kernel_rfl)
        have hl := run_loadVar_row (P := Tryz.prog) _ (w.heap.size + 1 + 1) 142 142 _ (0, 0) _ (show (((w7.setCell ⟨w.heap.size + 1, 0, none⟩ (.slice none 0 0)).drew).setRow (w.heap.size + 1 + 1) (tblL fun _ => 0).toArray).heap[w.heap.size + 1 + 1]? = _ from hsr) Tryz.underlying142 rfl (tblL_info _)
        go_wp2
        refine bodyPost_ret (v := .tuple #[.agg #[.slice none 0 0], .agg (tblL fun _ => 0).toArray, .iface tp p]) (by simp [results, Tryz.results88, asAddr, hg, hl]) rfl (.inl ⟨HN.out, ⟨tp, p, rfl⟩, ?_⟩)
        exact ((HBQ.out.drew).setCell (by simp) _).trans (below_setRow _ _ _ (by omega))
      · have HOK : Hid (nmgOk ss names) := Lib.hid ⟨⟨HV.out, HCL.out⟩, by have h := HNB.out.1 rfl; rw [HLL.out] at h; exact h⟩
        have hGT := HG6.out
        have hRT := RQ3.out
        have g1 := R1c.out.cell (i := 0) (v := .slice oa ss.length cap) (by rfl)
        unfold Row at hGT hRT
        go_wp2
        refine wp_region_kept (S := fun w' => w'.cell? ⟨w.heap.size, 0, none⟩ = some (.slice oa ss.length cap) ∧ w'.heap[G]? = some (.cells (tblL (tabF ss)).toArray 142 (0, 0))) 9 (by kernel_rfl) ?_
        have hS0 := And.intro (cell_drew g1) (show w7.drew.heap[G]? = _ from hGT)
        have HS0 := Lib.hid hS0
        have HGG : Hid (w.heap.size + 1 + 1 < G ∧ G < w7.heap.size) := Lib.hid ⟨HGB.out, HG6.out.lt⟩
        refine KeptAny.take (i := 0) (v := ?_) (by kernel_rfl) rfl rfl (by kernel_rfl) (by kernel_rfl) (by kernel_rfl) (fun _ _ _ h => h) (by rfl) (fun w' hw' => ?_) (fun _ => rfl) hS0 ?_
        rotate_left
        · (obtain ⟨g0, g2⟩ := hw'; go_simp; try with_reducible rfl)
        refine KeptAny.take (i := 1) (v := ?_) (by kernel_rfl) rfl rfl (by kernel_rfl) (by kernel_rfl) (by kernel_rfl) (fun _ _ _ h => h) (by rfl) (fun w' hw' => ?_) (fun _ => rfl) hS0 ?_
        rotate_left
        · (obtain ⟨g0, g2⟩ := hw'; go_simp; try with_reducible rfl)
        refine KeptAny.take (i := 6) (v := .agg (tblL (tabF ss)).toArray) (by kernel_rfl) rfl rfl (by kernel_rfl) (by kernel_rfl) (by kernel_rfl) (fun _ _ _ h => h) (by rfl) (fun w' hw' => ?_) (fun _ => rfl) hS0 ?_
        · exact exec_load_row 142 _ rfl G rfl 142 _ (0, 0) _ hw'.2 Tryz.underlying142 rfl (tblL_info _)
        clear hS0 g1 hGT hRT
        have HD0 : Hid (Below w7.heap.size w7 w7.drew) := Lib.hid ((Below.refl _ _).drew)
        refine KeptAny.one (i := 2) (by kernel_rfl) rfl (by rfl) (fun K hK => ?_)
        go_simp
        refine ⟨trivial, ?_⟩
        refine ((callsIn_wide (n := 5)).2 (renaming_any HOK.out (show Row w7.drew G 142 (tblL (tabF ss)) from HS0.out.2))).mono ?_
        rintro e wa ⟨u, rfl, hu, hba⟩
        have HXA := Lib.hid (HD0.out.trans (hba.mono HD0.out.size))
        have HU := Lib.hid hu
        have HSA := Lib.hid (And.intro (cell_grow hba HS0.out.1) ((hba.block G (by exact HGG.out.2)).trans HS0.out.2))
        refine hK.out _ _ HSA.out (fun _ => ?_)
        clear hK hu hba
        refine KeptAny.one (i := 3) (by kernel_rfl) rfl (by rfl) (fun K hK => ?_)
        go_simp
        refine hK.out _ _ HSA.out (fun _ => ?_)
        clear hK
        have hbb := (Below.refl wa.heap.size wa).alloc (Nat.le_refl _) (.cells #[.func (.func 141) #[u] #[]] 236)
        have HAW := Lib.hid HXA.out.size
        have HSB := Lib.hid (And.intro (cell_grow hbb HSA.out.1) ((hbb.block G (by have := HGG.out; have := HAW.out; omega)).trans HSA.out.2))
        have E6 := Lib.hid (edit_on (us := ss) HU.out (by have := HV.out.count.2; omega) (fun s hs => by have := HV.out.five s hs; omega))
        have HWA := Lib.hid (HBQ.out.trans (HXA.out.mono HBQ.out.size))
        have W6 := Lib.hid (with_one ss _ HF.out HV.out.count.1 oa cap _ wa (HC.out.below HWA.out (Nat.le_refl _)) E6.out)
        rw [show renP ss (nmgF ss names) = nmgG ss names from rfl] at W6
        clear hbb
        refine KeptAny.one (i := 4) (by kernel_rfl) rfl (by rfl) (fun K hK => ?_)
        go_simp
        refine hK.out _ _ HSB.out (fun _ => ?_)
        clear hK
        refine KeptAny.one (i := 5) (by kernel_rfl) rfl (by rfl) (fun K hK => ?_)
        go_simp
        refine ⟨trivial, ?_⟩
        refine ((callsIn_wide (n := 5)).2 W6.out).mono ?_
        rintro e wc ⟨vc, hs, rfl, hO, hbc⟩
        obtain ⟨ov, cv, rfl, -⟩ := hO.holds
        have HXC := Lib.hid (HXA.out.trans (hbc.mono HXA.out.size))
        have HO := Lib.hid (hO.lower HWA.out.size)
        have HWC := Lib.hid (HWA.out.trans (hbc.mono HWA.out.size))
        have RC2 := Lib.hid (RQ2.out.below HXC.out RQ2.out.lt)
        have RC3 := Lib.hid (RQ3.out.below HXC.out RQ3.out.lt)
        have HSC := Lib.hid (And.intro (cell_grow hbc HSA.out.1) ((hbc.block G (by have := HGG.out; have := HAW.out; omega)).trans HSA.out.2))
        have n0 := RC2.out.cell (i := 0) (v := .slice none 0 0) (by rfl)
        have f0 := RC2.out.frozen 0
        refine hK.out _ _ HSC.out (fun _ => ?_)
        clear hK hO hbc
        have RT := RC2.out.set 0 (.slice ov (nmgG ss names).length cv)
        have HSD := Lib.hid (And.intro ((cell_farR (by omega) 0 _ (o := 0)).trans HSC.out.1 : (wc.setCell ⟨w.heap.size + 1, 0, none⟩ (.slice ov (nmgG ss names).length cv)).cell? ⟨w.heap.size, 0, none⟩ = _)
          ((Below.heap_setCell _ _ _ _ (by show G ≠ w.heap.size + 1; have := HGG.out; omega)).trans HSC.out.2 : (wc.setCell ⟨w.heap.size + 1, 0, none⟩ (.slice ov (nmgG ss names).length cv)).heap[G]? = _))
        have HR7 := RC3.out.other (a := ⟨w.heap.size + 1, 0, none⟩) (by show w.heap.size + 1 ≠ w.heap.size + 1 + 1; omega) (.slice ov (nmgG ss names).length cv)
        unfold Row at HR7
        have HO7 : Hid (OwnGr (wc.setCell ⟨w.heap.size + 1, 0, none⟩ (.slice ov (nmgG ss names).length cv)) w.heap.size (.slice ov (nmgG ss names).length cv) (nmgG ss names) hs) := Lib.hid
          ⟨HO.out.len, ownsRow_otherN HO.out.row RC2.out (by decide) 0 _, fun k t z h1 h2 => ownsRow_otherN (HO.out.items k t z h1 h2) RC2.out (by decide) 0 _, HO.out.apart⟩
        refine KeptAny.one (i := 7) (by kernel_rfl) rfl (by rfl) (fun K hK => ?_)
        go_simp
        refine hK.out _ _ HSD.out (fun _ => ?_)
        clear hK n0 f0
        refine KeptAny.one (i := 8) (by kernel_rfl) rfl (by rfl) (fun K hK => ?_)
        refine wpIn_store_row 142 _ _ rfl (by rfl) (w.heap.size + 1 + 1) (tblL (tabF ss)).toArray rfl rfl 142 _ HR7 (tblL_info (fun _ => 0)) (by simp [tblL_length]) (tblL_one _) ?_
        have hsr := setRow_heap _ _ _ (tblL (tabF ss)).toArray _ _ HR7
        have hcn : ((wc.setCell ⟨w.heap.size + 1, 0, none⟩ (.slice ov (nmgG ss names).length cv)).setRow (w.heap.size + 1 + 1) (tblL (tabF ss)).toArray).cell? ⟨w.heap.size, 0, none⟩ = some (.slice oa ss.length cap) := (cell_setRow_other _ _ _ _ (by show w.heap.size ≠ w.heap.size + 1 + 1; omega)).trans HSD.out.1
        refine hK.out _ _ ⟨hcn, (setRow_other _ _ _ _ (by have := HGG.out; omega)).trans HSD.out.2⟩ (fun _ => ?_)
        clear hK
        refine KeptAny.last (by kernel_rfl) rfl (by rfl) (fun K hK => ?_)
        go_simp
        refine hK.out _ _ ?_
        clear hK
        refine KeptAny.done (by kernel_rfl) ?_ _
        have hg := run_loadVar_row (P := Tryz.prog) _ (w.heap.size + 1) 25 25 _ (0, 0) _ ((setRow_other _ _ _ _ (by omega)).trans RT : ((wc.setCell ⟨w.heap.size + 1, 0, none⟩ (.slice ov (nmgG ss names).length cv)).setRow (w.heap.size + 1 + 1) (tblL (tabF ss)).toArray).heap[w.heap.size + 1]? = _) Tryz.underlying25 rfl (by kernel_rfl)
        have hl := run_loadVar_row (P := Tryz.prog) _ (w.heap.size + 1 + 1) 142 142 _ (0, 0) _ hsr Tryz.underlying142 rfl (tblL_info _)
        go_wp2
        refine bodyPost_ret (v := .tuple #[.agg #[.slice ov (nmgG ss names).length cv], .agg (tblL (tabF ss)).toArray, .nilIface]) (by simp [results, Tryz.results88, asAddr, hg, hl]) rfl (.inr ⟨HOK.out, _, hs, rfl, ?_, (HWC.out.setCell (by simp) _).trans (below_setRow _ _ _ (by omega))⟩)
        exact ⟨HO7.out.len, ownsRow_setRowN HO7.out.row HR7 (by decide) _, fun k t z h1 h2 => ownsRow_setRowN (HO7.out.items k t z h1 h2) HR7 (by decide) _, HO7.out.apart⟩
    · have HN : Hid (¬ nmgOk ss names) := Lib.hid (fun h => (clear_table HV.out).1 (HCB.out.1 rfl) h.1.2)
      obtain ⟨tp, p, he⟩ := (HE.out.at HBQ.out).several
      have hRT := RQ3.out
      unfold Row at hRT
      have hsz := HSZ.out
      go_wp2
      refine wp_region_kept (S := fun w' => w'.cell? ⟨2, 0, none⟩ = some (.iface tp p) ∧ w'.heap[w.heap.size + 1 + 1]? = some (.cells (tblL fun _ => 0).toArray 142 (0, 0))) 5 (by kernel_rfl) ?_
      have hS0 := And.intro (cell_drew he) (show w5.drew.heap[w.heap.size + 1 + 1]? = _ from hRT)
      refine KeptAny.take (i := 0) (v := ?_) (by kernel_rfl) rfl rfl (by kernel_rfl) (by kernel_rfl) (by kernel_rfl) (fun _ _ _ h => h) (by rfl) (fun w' hw' => ?_) (fun _ => rfl) hS0 ?_
      rotate_left
      · (obtain ⟨g0, g1⟩ := hw'; go_simp; try with_reducible rfl)
      refine KeptAny.take (i := 1) (v := ?_) (by kernel_rfl) rfl rfl (by kernel_rfl) (by kernel_rfl) (by kernel_rfl) (fun _ _ _ h => h) (by rfl) (fun w' hw' => ?_) (fun _ => rfl) hS0 ?_
      rotate_left
      · (obtain ⟨g0, g1⟩ := hw'; go_simp; try with_reducible rfl)
      refine KeptAny.take (i := 2) (v := ?_) (by kernel_rfl) rfl rfl (by kernel_rfl) (by kernel_rfl) (by kernel_rfl) (fun _ _ _ h => h) (by rfl) (fun w' hw' => ?_) (fun _ => rfl) hS0 ?_
      rotate_left
      · (obtain ⟨g0, g1⟩ := hw'; go_simp; try with_reducible rfl)
      have n0 := (RQ2.out.drew).cell (i := 0) (v := .slice none 0 0) (by rfl)
      have f0 := (RQ2.out.drew).frozen 0
      have RT := RQ2.out.drew.set 0 (.slice none 0 0)
      have HS1 := Lib.hid (And.intro ((cell_farR (by have := hsz; omega) 0 _ (o := 0)).trans hS0.1 : (w5.drew.setCell ⟨w.heap.size + 1, 0, none⟩ (.slice none 0 0)).cell? ⟨2, 0, none⟩ = _) ((Below.heap_setCell _ _ _ _ (by show w.heap.size + 1 + 1 ≠ w.heap.size + 1; omega)).trans hS0.2 : (w5.drew.setCell ⟨w.heap.size + 1, 0, none⟩ (.slice none 0 0)).heap[w.heap.size + 1 + 1]? = _))
      clear hS0 he hRT
      refine KeptAny.one (i := 3) (by kernel_rfl) rfl (by rfl) (fun K hK => ?_)
      go_simp
      refine hK.out _ _ HS1.out (fun _ => ?_)
      clear hK
      refine KeptAny.one (i := 4) (by kernel_rfl) rfl (by rfl) (fun K hK => ?_)
      refine wpIn_store_row 142 _ _ rfl (by rfl) (w.heap.size + 1 + 1) (tblL fun _ => 0).toArray rfl rfl 142 _ HS1.out.2 (tblL_info (fun _ => 0)) (by simp [tblL_length]) (tblL_one _) ?_
      have hsr := setRow_heap _ _ _ (tblL fun _ => 0).toArray _ _ HS1.out.2
      refine hK.out _ _ ⟨(cell_setRow_other _ _ _ _ (by have := hsz; show (2 : Nat) ≠ w.heap.size + 1 + 1; omega)).trans HS1.out.1, hsr⟩ (fun _ => ?_)
      clear hK
      refine KeptAny.last (by kernel_rfl) rfl (by rfl) (fun K hK => ?_)
      go_simp
      refine hK.out _ _ ?_
      clear hK
      refine KeptAny.done (by kernel_rfl) ?_ _
      have hg := run_loadVar_row (P := Tryz.prog) _ (w.heap.size + 1) 25 25 _ (0, 0) _ ((setRow_other _ _ _ _ (by omega)).trans RT : (((w5.setCell ⟨w.heap.size + 1, 0, none⟩ (.slice none 0 0)).drew).setRow (w.heap.size + 1 + 1) (tblL fun _ => 0).toArray).heap[w.heap.size + 1]? = _) Tryz.underlying25 rfl (by kernel_rfl)
      have hl := run_loadVar_row (P := Tryz.prog) _ (w.heap.size + 1 + 1) 142 142 _ (0, 0) _ (show (((w5.setCell ⟨w.heap.size + 1, 0, none⟩ (.slice none 0 0)).drew).setRow (w.heap.size + 1 + 1) (tblL fun _ => 0).toArray).heap[w.heap.size + 1 + 1]? = _ from hsr) Tryz.underlying142 rfl (tblL_info _)
      go_wp2
      refine bodyPost_ret (v := .tuple #[.agg #[.slice none 0 0], .agg (tblL fun _ => 0).toArray, .iface tp p]) (by simp [results, Tryz.results88, asAddr, hg, hl]) rfl (.inl ⟨HN.out, ⟨tp, p, rfl⟩, ?_⟩)
      exact ((HBQ.out.drew).setCell (by simp) _).trans (below_setRow _ _ _ (by omega))
set_option maxRecDepth 100000 in
set_option maxHeartbeats 8000000 in
theorem implNamed_any (ss : List Sc) (hF : Fair ss) (oa : Option Addr) (cap : Nat) (names : ByteArray) (hns : names.size ≤ 1048576) (w : World) (hc : HoldsScopes w oa ss) (hE : NmgErrs w) :
    Calls Tryz.prog 31 #[.agg #[.slice oa ss.length cap], .string names] w (GrGot (nmgOk ss names) (nmgG ss names) w) := by
  have hb0 := ((Below.refl w.heap.size w).alloc (Nat.le_refl _) (.cells #[.slice oa ss.length cap] 25)).alloc (by simp) (.cells #[.slice none 0 0] 25)
  have R1 := (Row.new w [.slice oa ss.length cap] 25).alloc (.cells #[.slice none 0 0] 25)
  have R2 := Row.new (w.alloc (.cells #[.slice oa ss.length cap] 25)) [.slice none 0 0] 25
  rw [World.size_alloc] at R2
  have R2 := Lib.hid R2
  have C := Lib.hid (withNames_any ss hF oa cap names hns _ (hc.below hb0 (Nat.le_refl _)) (hE.at hb0))
  have HB := Lib.hid hb0
  have g1 := R1.cell (i := 0) (v := .slice oa ss.length cap) (by rfl)
  clear hb0 hF hc hE R1
  go_enter Tryz.func31, Tryz.ntmps31
  go_wp2_with fail
  refine C.out.mono ?_
  rintro e w1 (⟨hn, ⟨tp, p, rfl⟩, hb1⟩ | ⟨hok, v, hs, rfl, hO, hb1⟩)
  · have HN := Lib.hid hn
    have hbN : Below w1.heap.size w1 ((w1.alloc (.cells #[.slice none 0 0] 25)).alloc (.cells #[.int .i64 0, .int .i64 0, .int .i64 0, .int .i64 0, .int .i64 0, .int .i64 0, .int .i64 0, .int .i64 0, .int .i64 0, .int .i64 0, .int .i64 0, .int .i64 0, .int .i64 0, .int .i64 0, .int .i64 0, .int .i64 0, .int .i64 0, .int .i64 0, .int .i64 0, .int .i64 0, .int .i64 0, .int .i64 0, .int .i64 0, .int .i64 0, .int .i64 0, .int .i64 0, .int .i64 0, .int .i64 0, .int .i64 0, .int .i64 0] 142)) := ((Below.refl _ _).alloc (Nat.le_refl _) _).alloc (by simp) _
    have RN := (Row.new w1 [.slice none 0 0] 25).alloc (.cells #[.int .i64 0, .int .i64 0, .int .i64 0, .int .i64 0, .int .i64 0, .int .i64 0, .int .i64 0, .int .i64 0, .int .i64 0, .int .i64 0, .int .i64 0, .int .i64 0, .int .i64 0, .int .i64 0, .int .i64 0, .int .i64 0, .int .i64 0, .int .i64 0, .int .i64 0, .int .i64 0, .int .i64 0, .int .i64 0, .int .i64 0, .int .i64 0, .int .i64 0, .int .i64 0, .int .i64 0, .int .i64 0, .int .i64 0, .int .i64 0] 142)
    have hz := Row.new (w1.alloc (.cells #[.slice none 0 0] 25)) [.int .i64 0, .int .i64 0, .int .i64 0, .int .i64 0, .int .i64 0, .int .i64 0, .int .i64 0, .int .i64 0, .int .i64 0, .int .i64 0, .int .i64 0, .int .i64 0, .int .i64 0, .int .i64 0, .int .i64 0, .int .i64 0, .int .i64 0, .int .i64 0, .int .i64 0, .int .i64 0, .int .i64 0, .int .i64 0, .int .i64 0, .int .i64 0, .int .i64 0, .int .i64 0, .int .i64 0, .int .i64 0, .int .i64 0, .int .i64 0] 142
    rw [World.size_alloc] at hz
    have hbS := hbN.trans (below_setRow _ (w1.heap.size + 1) ((tblL fun _ => 0).toArray) (by omega))
    have RNS : Row (((w1.alloc (.cells #[.slice none 0 0] 25)).alloc (.cells #[.int .i64 0, .int .i64 0, .int .i64 0, .int .i64 0, .int .i64 0, .int .i64 0, .int .i64 0, .int .i64 0, .int .i64 0, .int .i64 0, .int .i64 0, .int .i64 0, .int .i64 0, .int .i64 0, .int .i64 0, .int .i64 0, .int .i64 0, .int .i64 0, .int .i64 0, .int .i64 0, .int .i64 0, .int .i64 0, .int .i64 0, .int .i64 0, .int .i64 0, .int .i64 0, .int .i64 0, .int .i64 0, .int .i64 0, .int .i64 0] 142)).setRow (w1.heap.size + 1) ((tblL fun _ => 0).toArray)) w1.heap.size 25 [.slice none 0 0] := (setRow_other _ _ _ _ (by omega)).trans RN
    unfold Row at hz
    clear RN hbN g1
    go_upto_region 2 with (refine wpList_store_row rfl 142 _ _ rfl (w1.heap.size + 1) ((tblL fun _ => 0).toArray) rfl rfl 142 _ hz (tblL_info (fun _ => 0)) (by simp [tblL_length]) (tblL_one _) ?_)
    clear hz
    generalize ((w1.alloc (.cells #[.slice none 0 0] 25)).alloc (.cells #[.int .i64 0, .int .i64 0, .int .i64 0, .int .i64 0, .int .i64 0, .int .i64 0, .int .i64 0, .int .i64 0, .int .i64 0, .int .i64 0, .int .i64 0, .int .i64 0, .int .i64 0, .int .i64 0, .int .i64 0, .int .i64 0, .int .i64 0, .int .i64 0, .int .i64 0, .int .i64 0, .int .i64 0, .int .i64 0, .int .i64 0, .int .i64 0, .int .i64 0, .int .i64 0, .int .i64 0, .int .i64 0, .int .i64 0, .int .i64 0] 142)).setRow (w1.heap.size + 1) ((tblL fun _ => 0).toArray) = wS at *
    have HBS := Lib.hid (HB.out.trans ((hb1.trans (hbS.mono hb1.size)).mono HB.out.size))
    have RS2 := Lib.hid (R2.out.below (hb1.trans (hbS.mono hb1.size)) R2.out.lt)
    have n1 := RNS.drew.cell (i := 0) (v := .slice none 0 0) (by rfl)
    have n0 := RS2.out.drew.cell (i := 0) (v := .slice none 0 0) (by rfl)
    have f0 := RS2.out.drew.frozen 0
    clear hb1 hbS RNS hn
    go_region
    all_goals go_wp2
    all_goals (
      have RT := RS2.out.set 0 (.slice none 0 0)
      have d0 := RT.cell (i := 0) (v := .slice none 0 0) (by rfl)
      refine bodyPost_ret (v := .tuple #[.agg #[.slice none 0 0], .bool false]) (by simp [results, Tryz.results31, go_sem, d0]) rfl (.inl ⟨HN.out, _, [], rfl, OwnGr.nil _ _, ?_⟩)
      first
        | exact (HBS.out.drew).setCell (by simp) _
        | exact (HBS.out.setCell (by simp) _).drew)
  · have HOK := Lib.hid hok
    obtain ⟨ov, cv, rfl, -⟩ := hO.holds
    have hbN : Below w1.heap.size w1 ((w1.alloc (.cells #[.slice ov (nmgG ss names).length cv] 25)).alloc (.cells #[.int .i64 0, .int .i64 0, .int .i64 0, .int .i64 0, .int .i64 0, .int .i64 0, .int .i64 0, .int .i64 0, .int .i64 0, .int .i64 0, .int .i64 0, .int .i64 0, .int .i64 0, .int .i64 0, .int .i64 0, .int .i64 0, .int .i64 0, .int .i64 0, .int .i64 0, .int .i64 0, .int .i64 0, .int .i64 0, .int .i64 0, .int .i64 0, .int .i64 0, .int .i64 0, .int .i64 0, .int .i64 0, .int .i64 0, .int .i64 0] 142)) := ((Below.refl _ _).alloc (Nat.le_refl _) _).alloc (by simp) _
    have RN := (Row.new w1 [.slice ov (nmgG ss names).length cv] 25).alloc (.cells #[.int .i64 0, .int .i64 0, .int .i64 0, .int .i64 0, .int .i64 0, .int .i64 0, .int .i64 0, .int .i64 0, .int .i64 0, .int .i64 0, .int .i64 0, .int .i64 0, .int .i64 0, .int .i64 0, .int .i64 0, .int .i64 0, .int .i64 0, .int .i64 0, .int .i64 0, .int .i64 0, .int .i64 0, .int .i64 0, .int .i64 0, .int .i64 0, .int .i64 0, .int .i64 0, .int .i64 0, .int .i64 0, .int .i64 0, .int .i64 0] 142)
    have hz := Row.new (w1.alloc (.cells #[.slice ov (nmgG ss names).length cv] 25)) [.int .i64 0, .int .i64 0, .int .i64 0, .int .i64 0, .int .i64 0, .int .i64 0, .int .i64 0, .int .i64 0, .int .i64 0, .int .i64 0, .int .i64 0, .int .i64 0, .int .i64 0, .int .i64 0, .int .i64 0, .int .i64 0, .int .i64 0, .int .i64 0, .int .i64 0, .int .i64 0, .int .i64 0, .int .i64 0, .int .i64 0, .int .i64 0, .int .i64 0, .int .i64 0, .int .i64 0, .int .i64 0, .int .i64 0, .int .i64 0] 142
    rw [World.size_alloc] at hz
    have hbS := hbN.trans (below_setRow _ (w1.heap.size + 1) ((tblL (tabF ss)).toArray) (by omega))
    have RNS : Row (((w1.alloc (.cells #[.slice ov (nmgG ss names).length cv] 25)).alloc (.cells #[.int .i64 0, .int .i64 0, .int .i64 0, .int .i64 0, .int .i64 0, .int .i64 0, .int .i64 0, .int .i64 0, .int .i64 0, .int .i64 0, .int .i64 0, .int .i64 0, .int .i64 0, .int .i64 0, .int .i64 0, .int .i64 0, .int .i64 0, .int .i64 0, .int .i64 0, .int .i64 0, .int .i64 0, .int .i64 0, .int .i64 0, .int .i64 0, .int .i64 0, .int .i64 0, .int .i64 0, .int .i64 0, .int .i64 0, .int .i64 0] 142)).setRow (w1.heap.size + 1) ((tblL (tabF ss)).toArray)) w1.heap.size 25 [.slice ov (nmgG ss names).length cv] := (setRow_other _ _ _ _ (by omega)).trans RN
    have hOA := hO.below hbN
    have hOS : OwnGr (((w1.alloc (.cells #[.slice ov (nmgG ss names).length cv] 25)).alloc (.cells #[.int .i64 0, .int .i64 0, .int .i64 0, .int .i64 0, .int .i64 0, .int .i64 0, .int .i64 0, .int .i64 0, .int .i64 0, .int .i64 0, .int .i64 0, .int .i64 0, .int .i64 0, .int .i64 0, .int .i64 0, .int .i64 0, .int .i64 0, .int .i64 0, .int .i64 0, .int .i64 0, .int .i64 0, .int .i64 0, .int .i64 0, .int .i64 0, .int .i64 0, .int .i64 0, .int .i64 0, .int .i64 0, .int .i64 0, .int .i64 0] 142)).setRow (w1.heap.size + 1) (tblL (tabF ss)).toArray) _ (.slice ov (nmgG ss names).length cv) (nmgG ss names) hs := ⟨hOA.len, ownsRow_setRowN hOA.row hz (by decide) _, fun k t z h1 h2 => ownsRow_setRowN (hOA.items k t z h1 h2) hz (by decide) _, hOA.apart⟩
    unfold Row at hz
    clear RN hbN g1
    go_upto_region 2 with (refine wpList_store_row rfl 142 _ _ rfl (w1.heap.size + 1) ((tblL (tabF ss)).toArray) rfl rfl 142 _ hz (tblL_info (fun _ => 0)) (by simp [tblL_length]) (tblL_one _) ?_)
    clear hz
    generalize ((w1.alloc (.cells #[.slice ov (nmgG ss names).length cv] 25)).alloc (.cells #[.int .i64 0, .int .i64 0, .int .i64 0, .int .i64 0, .int .i64 0, .int .i64 0, .int .i64 0, .int .i64 0, .int .i64 0, .int .i64 0, .int .i64 0, .int .i64 0, .int .i64 0, .int .i64 0, .int .i64 0, .int .i64 0, .int .i64 0, .int .i64 0, .int .i64 0, .int .i64 0, .int .i64 0, .int .i64 0, .int .i64 0, .int .i64 0, .int .i64 0, .int .i64 0, .int .i64 0, .int .i64 0, .int .i64 0, .int .i64 0] 142)).setRow (w1.heap.size + 1) ((tblL (tabF ss)).toArray) = wS at *
    have HBS := Lib.hid (HB.out.trans ((hb1.trans (hbS.mono hb1.size)).mono HB.out.size))
    have RS2 := Lib.hid (R2.out.below (hb1.trans (hbS.mono hb1.size)) R2.out.lt)
    have n1 := RNS.drew.cell (i := 0) (v := .slice ov (nmgG ss names).length cv) (by rfl)
    have n0 := RS2.out.drew.cell (i := 0) (v := .slice none 0 0) (by rfl)
    have f0 := RS2.out.drew.frozen 0
    have HOS := Lib.hid (hOS.lower HB.out.size)
    clear hb1 hbS RNS hok hOA hOS hO
    go_region
    all_goals go_wp2
    all_goals (
      have RT := RS2.out.set 0 (.slice ov (nmgG ss names).length cv)
      have d0 := RT.cell (i := 0) (v := .slice ov (nmgG ss names).length cv) (by rfl)
      have HOT : OwnGr (wS.setCell ⟨w.heap.size + 1, 0, none⟩ (.slice ov (nmgG ss names).length cv)) w.heap.size (.slice ov (nmgG ss names).length cv) (nmgG ss names) hs := ⟨HOS.out.len, ownsRow_otherN HOS.out.row RS2.out (by decide) 0 _, fun k t z h1 h2 => ownsRow_otherN (HOS.out.items k t z h1 h2) RS2.out (by decide) 0 _, HOS.out.apart⟩
      refine bodyPost_ret (v := .tuple #[.agg #[.slice ov (nmgG ss names).length cv], .bool true]) (by simp [results, Tryz.results31, go_sem, d0]) rfl (.inr ⟨HOK.out, _, hs, rfl, ?_, ?_⟩)
      · exact HOT.below ((Below.refl _ _).drew)
      · first
          | exact (HBS.out.drew).setCell (by simp) _
          | exact (HBS.out.setCell (by simp) _).drew)
end Go.Proofs.YtdmaaneilfjfcaaGreatDoor
