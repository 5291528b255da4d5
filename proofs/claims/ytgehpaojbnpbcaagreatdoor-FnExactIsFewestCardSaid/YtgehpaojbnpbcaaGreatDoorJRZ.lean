/-
  The walk of impl's (*nameable).conflictsOf: the set of the declarations with which one cannot share a name. Conditions: the nameable lies in memory; the package-level errors hold errors. The walk of impl's (*nameable).conflicts: a map from declarations to the sets of those with which they cannot share a name. Conditions: the nameable lies in memory; the package-level errors hold errors. Which declarations the set of conflicts of one has. Plain facts. The walk of impl's conflictGraph.allows: whether no two declarations that have one letter are in conflict. Conditions: the conflicts and the declarations lie in memory. The walk of impl's spread: a partition with a letter each, as far as there are some number of letters. The walks of slices.Max at bytes and of impl's partition.next. Conditions: the letters lie in memory. Two namings of at most seven declarations compared as arrays. Plain facts of the program's types. A range over an iterator that turns cells of its own between its rounds: the contract of such an iterator ('SeqB'), and the statement's law over it. Plain facts about the model's walk. The walk of the iterator that impl's partitions hands back, and its contract: all namings in which a letter stands only behind those before it, in order. Condition: the two numbers lie in memory all the while.
-/
import Derived.Test.YtgehpaojbnpbcaaGreatDoorJQZ
import Derived.Test.YtgehpaojbnpbcaaGreatDoorPSetZ
import Derived.Test.YtgehpaojbnpbcaaGreatDoorJOZ
import Derived.BigQuiet
import Derived.Laws.StructEq
import Derived.RangeFuncNested
import Derived.RangeFuncBound
import Derived.RangeFuncLeaves
import Derived.Below
import Derived.Test.YtgehpaojbnpbcaaGreatDoorBaseZ
import Derived.Sort.CutIn
import Derived.LoopIn
import Derived.Sort.LoopGhostIn
namespace Go.Proofs.YtgehpaojbnpbcaaGreatDoor
open Go Go.RowKit Go.Maps
/-- The declarations among the first k with which one cannot share a name. -/
def cfUp (ss : List Sc) (i : Nat) : Nat → List (Int × Int)
  | 0 => []
  | k + 1 => cfUp ss i k ++ match (dclP ss)[k]? with
    | some p => if i ≠ k ∧ ¬ goodN ss (pairL (dclP ss).length i k) then [p] else []
    | none => []
def cfS (ss : List Sc) (i q : Nat) : Bool := inPl (cfUp ss i (dclP ss).length) q
theorem cfUp_snoc {ss : List Sc} {i k : Nat} {p : Int × Int} (h : (dclP ss)[k]? = some p) : cfUp ss i (k + 1) = cfUp ss i k ++ if i ≠ k ∧ ¬ goodN ss (pairL (dclP ss).length i k) then [p] else [] := by
  show cfUp ss i k ++ _ = _
  rw [h]
theorem dcl_smallP {ss : List Sc} (hv : Valid ss) : SmallPls (dclP ss) := by
  intro p hp
  unfold dclP plsP plsOf at hp
  obtain ⟨q, hq, rfl⟩ := List.mem_map.1 hp
  obtain ⟨s, h1, h2⟩ := placed_at (List.mem_filter.1 hq).1
  have a1 := (List.getElem?_eq_some_iff.1 h1).1
  have a2 := (List.getElem?_eq_some_iff.1 h2).1
  have a3 := hv.count.2
  have a4 := hv.five s (List.mem_of_getElem? h1)
  exact ⟨q.1, q.2.1, rfl, by omega, by omega⟩
theorem inPl_app (l r : List (Int × Int)) (q : Nat) : inPl (l ++ r) q = (inPl l q || inPl r q) := by
  unfold inPl
  rw [List.any_append]
set_option maxRecDepth 100000 in
set_option maxHeartbeats 8000000 in
theorem conflictsOf_any (ss : List Sc) (hF : Fair ss) (oa od : Option Addr) (cap cd N : Nat) (i : Nat) (hi : i < (dclP ss).length) (h25 : (dclP ss).length ≤ 25) (w : World) (hN : NbIs w N ss oa cap od cd) (hE : NmgErrs w) :
    Calls Tryz.prog 68 #[.pointer (some ⟨N, 0, none⟩), .int .i64 (i : Int)] w fun e w' => e = .returned (.agg (psetL (cfS ss i)).toArray) ∧ Below w.heap.size w w' := by
  have hb0 := ((Below.refl w.heap.size w).alloc (Nat.le_refl _) (.cells #[.bool false, .bool false, .bool false, .bool false, .bool false, .bool false, .bool false, .bool false, .bool false, .bool false, .bool false, .bool false, .bool false, .bool false, .bool false, .bool false, .bool false, .bool false, .bool false, .bool false, .bool false, .bool false, .bool false, .bool false, .bool false, .bool false, .bool false, .bool false, .bool false, .bool false] 117)).alloc (by simp) (.cells #[.bool false, .bool false, .bool false, .bool false, .bool false, .bool false, .bool false, .bool false, .bool false, .bool false, .bool false, .bool false, .bool false, .bool false, .bool false, .bool false, .bool false, .bool false, .bool false, .bool false, .bool false, .bool false, .bool false, .bool false, .bool false, .bool false, .bool false, .bool false, .bool false, .bool false] 117)
  have d0 := (hN.below hb0).box.cell nbL_dcl
  have R1 := Lib.hid ((Row.new w [.bool false, .bool false, .bool false, .bool false, .bool false, .bool false, .bool false, .bool false, .bool false, .bool false, .bool false, .bool false, .bool false, .bool false, .bool false, .bool false, .bool false, .bool false, .bool false, .bool false, .bool false, .bool false, .bool false, .bool false, .bool false, .bool false, .bool false, .bool false, .bool false, .bool false] 117).alloc (.cells #[.bool false, .bool false, .bool false, .bool false, .bool false, .bool false, .bool false, .bool false, .bool false, .bool false, .bool false, .bool false, .bool false, .bool false, .bool false, .bool false, .bool false, .bool false, .bool false, .bool false, .bool false, .bool false, .bool false, .bool false, .bool false, .bool false, .bool false, .bool false, .bool false, .bool false] 117))
  have hR2 := Row.new (w.alloc (.cells #[.bool false, .bool false, .bool false, .bool false, .bool false, .bool false, .bool false, .bool false, .bool false, .bool false, .bool false, .bool false, .bool false, .bool false, .bool false, .bool false, .bool false, .bool false, .bool false, .bool false, .bool false, .bool false, .bool false, .bool false, .bool false, .bool false, .bool false, .bool false, .bool false, .bool false] 117)) [.bool false, .bool false, .bool false, .bool false, .bool false, .bool false, .bool false, .bool false, .bool false, .bool false, .bool false, .bool false, .bool false, .bool false, .bool false, .bool false, .bool false, .bool false, .bool false, .bool false, .bool false, .bool false, .bool false, .bool false, .bool false, .bool false, .bool false, .bool false, .bool false, .bool false] 117
  rw [World.size_alloc] at hR2
  have R2 : Hid (Row ((w.alloc (.cells #[.bool false, .bool false, .bool false, .bool false, .bool false, .bool false, .bool false, .bool false, .bool false, .bool false, .bool false, .bool false, .bool false, .bool false, .bool false, .bool false, .bool false, .bool false, .bool false, .bool false, .bool false, .bool false, .bool false, .bool false, .bool false, .bool false, .bool false, .bool false, .bool false, .bool false] 117)).alloc (.cells #[.bool false, .bool false, .bool false, .bool false, .bool false, .bool false, .bool false, .bool false, .bool false, .bool false, .bool false, .bool false, .bool false, .bool false, .bool false, .bool false, .bool false, .bool false, .bool false, .bool false, .bool false, .bool false, .bool false, .bool false, .bool false, .bool false, .bool false, .bool false, .bool false, .bool false] 117)) (w.heap.size + 1) 117 (psetL fun q => inPl (cfUp ss i 0) q)) := Lib.hid (by
    rw [show (psetL fun q => inPl (cfUp ss i 0) q) = [.bool false, .bool false, .bool false, .bool false, .bool false, .bool false, .bool false, .bool false, .bool false, .bool false, .bool false, .bool false, .bool false, .bool false, .bool false, .bool false, .bool false, .bool false, .bool false, .bool false, .bool false, .bool false, .bool false, .bool false, .bool false, .bool false, .bool false, .bool false, .bool false, .bool false] from by kernel_rfl]
    exact hR2)
  have HB0 := Lib.hid hb0
  have HN := Lib.hid hN
  have HF := Lib.hid hF
  have HE := Lib.hid hE
  have HSP := Lib.hid (dcl_smallP hN.ok.1)
  have H25 := Lib.hid h25
  clear hb0 hR2 hN hF hE
  go_enter Tryz.func68, Tryz.ntmps68
  go_wp2
  go_loopw [13] (fun v wr => ∃ k : Nat, v = .int .i64 k ∧ k ≤ (dclP ss).length ∧ Hid (Below w.heap.size w wr ∧ Row wr (w.heap.size + 1) 117 (psetL fun q => inPl (cfUp ss i k) q) ∧ Row wr w.heap.size 117 [.bool false, .bool false, .bool false, .bool false, .bool false, .bool false, .bool false, .bool false, .bool false, .bool false, .bool false, .bool false, .bool false, .bool false, .bool false, .bool false, .bool false, .bool false, .bool false, .bool false, .bool false, .bool false, .bool false, .bool false, .bool false, .bool false, .bool false, .bool false, .bool false, .bool false])) (fun v _ => (dclP ss).length - (intOf v).toNat)
  case atStart => exact ⟨0, rfl, Nat.zero_le _, Lib.hid ⟨HB0.out, R2.out, R1.out⟩⟩
  case round =>
    obtain ⟨k, rfl, hk, hP⟩ := hrel
    by_cases hlt : k < (dclP ss).length
    · obtain ⟨⟨a, b⟩, hp⟩ : ∃ p, (dclP ss)[k]? = some p := ⟨_, List.getElem?_eq_getElem hlt⟩
      have HPK := Lib.hid hp
      have HNR := Lib.hid (HN.out.below hP.out.1)
      obtain ⟨b1, f1, rfl, hb1, q1⟩ := HNR.out.dcls.at (by omega)
      obtain ⟨c0, c1⟩ := q1 k _ hp
      have hba := (Below.refl wr.heap.size wr).alloc (Nat.le_refl _) (.cells #[.int .i64 a, .int .i64 b] 59)
      have HBA := Lib.hid hba
      have HNA := Lib.hid (HNR.out.below hba)
      have RP := Lib.hid (Row.new wr [.int .i64 a, .int .i64 b] 59)
      have hck := cfUp_snoc (i := i) hp
      have HCK := Lib.hid hck
      have HSL : Hid (w.heap.size ≤ wr.heap.size) := Lib.hid hP.out.1.size
      clear hba q1 hp hck hb1
      by_cases hik : i = k
      · have e1 : ((i : Int) == (k : Int)) = true := by simp [hik]
        have e1' : ((i : Int) != (k : Int)) = false := by simp [hik]
        have HX : Hid (Below w.heap.size w (wr.alloc (.cells #[.int .i64 a, .int .i64 b] 59)) ∧ Row (wr.alloc (.cells #[.int .i64 a, .int .i64 b] 59)) (w.heap.size + 1) 117 (psetL fun q => inPl (cfUp ss i (k + 1)) q) ∧ Row (wr.alloc (.cells #[.int .i64 a, .int .i64 b] 59)) w.heap.size 117 [.bool false, .bool false, .bool false, .bool false, .bool false, .bool false, .bool false, .bool false, .bool false, .bool false, .bool false, .bool false, .bool false, .bool false, .bool false, .bool false, .bool false, .bool false, .bool false, .bool false, .bool false, .bool false, .bool false, .bool false, .bool false, .bool false, .bool false, .bool false, .bool false, .bool false]) := Lib.hid (by
          rw [HCK.out, if_neg (fun h => h.1 hik), List.append_nil]
          exact ⟨hP.out.1.trans (HBA.out.mono HSL.out), hP.out.2.1.alloc _, hP.out.2.2.alloc _⟩)
        clear hik
        go_wp2
        go_roundw
        case rel => exact ⟨k + 1, by go_num, by omega, HX⟩
        case measure => simp only [intOf]; omega
      · have e1 : ((i : Int) == (k : Int)) = false := by rw [beq_eq_false_iff_ne]; omega
        have e1' : ((i : Int) != (k : Int)) = true := by rw [bne_iff_ne]; omega
        have HIK := Lib.hid hik
        have C3 := Lib.hid (canShare_any ss HF.out oa (some ⟨b1, f1, none⟩) cap cd N i k hi hlt hik H25.out _ HNA.out (HE.out.at (hP.out.1.trans (HBA.out.mono HSL.out))))
        clear hik
        go_wp2_with fail
        refine C3.out.mono ?_
        rintro e w3 ⟨rfl, hb3⟩
        have HB3 := Lib.hid (HBA.out.trans (hb3.mono HBA.out.size))
        have HBW := Lib.hid (hP.out.1.trans (HB3.out.mono HSL.out))
        have RS := Lib.hid (hP.out.2.1.below HB3.out hP.out.2.1.lt)
        have RZ := Lib.hid (hP.out.2.2.below HB3.out hP.out.2.2.lt)
        have RP3 := Lib.hid (RP.out.below hb3 RP.out.lt)
        clear hb3 c0 c1
        by_cases hg : goodN ss (pairL (dclP ss).length i k)
        · have hgd : decide (goodN ss (pairL (dclP ss).length i k)) = true := decide_eq_true hg
          have HX : Hid (Below w.heap.size w w3 ∧ Row w3 (w.heap.size + 1) 117 (psetL fun q => inPl (cfUp ss i (k + 1)) q) ∧ Row w3 w.heap.size 117 [.bool false, .bool false, .bool false, .bool false, .bool false, .bool false, .bool false, .bool false, .bool false, .bool false, .bool false, .bool false, .bool false, .bool false, .bool false, .bool false, .bool false, .bool false, .bool false, .bool false, .bool false, .bool false, .bool false, .bool false, .bool false, .bool false, .bool false, .bool false, .bool false, .bool false]) := Lib.hid (by
            rw [HCK.out, if_neg (fun h => h.2 hg), List.append_nil]
            exact ⟨HBW.out, RS.out, RZ.out⟩)
          rw [hgd]
          clear hg hgd
          go_wp2
          go_roundw
          case rel => exact ⟨k + 1, by go_num, by omega, HX⟩
          case measure => simp only [intOf]; omega
        · have hgd : decide (goodN ss (pairL (dclP ss).length i k)) = false := decide_eq_false hg
          have HG := Lib.hid hg
          rw [hgd]
          have p0 := RP3.out.cell (i := 0) (v := .int .i64 a) (by rfl)
          have p1 := RP3.out.cell (i := 1) (v := .int .i64 b) (by rfl)
          have hbs := (Below.refl w3.heap.size w3).alloc (Nat.le_refl _) (.cells #[.int .i64 a, .int .i64 b] 59)
          have hl3 : w.heap.size + 1 < w3.heap.size := RS.out.lt
          have HARG : Hid (ArgPlaces (w3.alloc (.cells #[.int .i64 a, .int .i64 b] 59)) (some ⟨w3.heap.size, 0, none⟩) [(a, b)]) := Lib.hid (.inr ⟨w3.heap.size, 0, rfl, by simp, fun m p hm => by
            have hm0 : m = 0 := by have := (List.getElem?_eq_some_iff.1 hm).1; simp at this; omega
            subst hm0
            simp at hm
            subst hm
            exact ⟨(Row.new w3 [.int .i64 a, .int .i64 b] 59).cell (i := 0) (v := .int .i64 a) (by rfl), (Row.new w3 [.int .i64 a, .int .i64 b] 59).cell (i := 1) (v := .int .i64 b) (by rfl)⟩⟩)
          have C4 := Lib.hid (padd_any (RS.out.alloc (.cells #[.int .i64 a, .int .i64 b] 59)) (oa := some ⟨w3.heap.size, 0, none⟩) (cap := 1) (l := [(a, b)]) (by simp) (fun p hp => HSP.out p (by rw [List.mem_singleton] at hp; subst hp; exact List.mem_of_getElem? HPK.out)) HARG.out (fun b' off h _ => by cases h; omega))
          have HBS := Lib.hid (HBW.out.trans (hbs.mono HBW.out.size))
          have RZ2 := Lib.hid (RZ.out.alloc (.cells #[.int .i64 a, .int .i64 b] 59))
          clear hg hgd hbs
          go_wp2_with fail
          refine C4.out.mono ?_
          rintro e w5 ⟨rfl, hrow, ht⟩
          have HX : Hid (Below w.heap.size w w5 ∧ Row w5 (w.heap.size + 1) 117 (psetL fun q => inPl (cfUp ss i (k + 1)) q) ∧ Row w5 w.heap.size 117 [.bool false, .bool false, .bool false, .bool false, .bool false, .bool false, .bool false, .bool false, .bool false, .bool false, .bool false, .bool false, .bool false, .bool false, .bool false, .bool false, .bool false, .bool false, .bool false, .bool false, .bool false, .bool false, .bool false, .bool false, .bool false, .bool false, .bool false, .bool false, .bool false, .bool false]) := Lib.hid (by
            refine ⟨HBS.out.trans (ht.below (by omega) (by omega) HBS.out.size), ?_, (ht.rest w.heap.size RZ2.out.lt (by omega) (by omega)).trans RZ2.out⟩
            rw [HCK.out, if_pos ⟨HIK.out, HG.out⟩]
            rw [show (psetL fun q => inPl (cfUp ss i k ++ [(a, b)]) q) = psetL fun q => inPl (cfUp ss i k) q || inPl [(a, b)] q from psetL_congr fun q _ => inPl_app _ _ _]
            exact hrow)
          clear hrow ht
          go_wp2
          go_roundw
          case rel => exact ⟨k + 1, by go_num, by omega, HX⟩
          case measure => simp only [intOf]; omega
    · obtain rfl : k = (dclP ss).length := by omega
      have hs1 := hP.out.2.1
      have hs2 := hP.out.2.2
      unfold Row at hs1 hs2
      have HSX := Lib.hid hs2
      go_wp2_with (first
        | (refine wpList_load_row rfl 117 _ rfl (w.heap.size + 1) rfl 117 _ (0, 0) _ hs1 Tryz.underlying117 rfl (psetL_info _) ?_)
        | (refine wpList_store_row rfl 117 _ _ rfl w.heap.size (psetL (cfS ss i)).toArray rfl rfl 117 _ hs2 (psetL_info _) (by simp [psetL_length]) (psetL_one _) ?_))
      exact bodyPost_ret (v := .agg (psetL (cfS ss i)).toArray) (results_cell_row rfl _ _ w.heap.size 117 _ (0, 0) _ rfl (setRow_heap _ _ _ _ _ _ HSX.out) Tryz.underlying117 rfl (psetL_info _)) rfl ⟨rfl, hP.out.1.trans (below_setRow _ _ _ (Nat.le_refl _))⟩
end Go.Proofs.YtgehpaojbnpbcaaGreatDoor
namespace Go.Proofs.YtgehpaojbnpbcaaGreatDoor
open Go Go.RowKit Go.Maps
/-- How sets of places read, as elements of maps. -/
def boolD (v : Value) : DataW Unit := match v with
  | .bool b => .lit (.bool b)
  | _ => .agg []
def psD (f : Nat → Bool) : DataW Unit := .agg ((psetL f).map boolD)
def psR (v : Value) : Option (DataW Unit × List MemPlace) := match v with
  | .agg cs => some (.agg (cs.toList.map boolD), [])
  | _ => none
theorem psR_mk (f : Nat → Bool) : psR (.agg (psetL f).toArray) = some (psD f, []) := rfl
theorem boolD_inj {v : Value} {b : Bool} (h : boolD v = .lit (.bool b)) : v = .bool b := by
  unfold boolD at h
  split at h
  · rename_i c
    have h2 := DataW.lit.inj h
    have h3 := Lit.bool.inj h2
    rw [h3]
  · cases h
theorem psR_eq {v : Value} {f : Nat → Bool} {ps : List MemPlace} (h : psR v = some (psD f, ps)) : v = .agg (psetL f).toArray := by
  unfold psR at h
  split at h
  · rename_i cs
    have h1 := (Prod.mk.inj (Option.some.inj h)).1
    have h2 : cs.toList.map boolD = (psetL f).map boolD := DataW.agg.inj h1
    have hl : cs.toList.length = 30 := by have := congrArg List.length h2; simp only [List.length_map, psetL_length] at this; exact this
    have h3 : cs.toList = psetL f := by
      refine List.ext_getElem? fun k => ?_
      by_cases hk : k < 30
      · have h4 := congrArg (fun l => l[k]?) h2
        simp only [List.getElem?_map] at h4
        rw [psetL_get f hk] at h4 ⊢
        rw [List.getElem?_eq_getElem (by rw [hl]; exact hk)] at h4 ⊢
        simp only [Option.map_some, Option.some.injEq] at h4
        rw [boolD_inj h4]
      · rw [List.getElem?_eq_none (by omega), List.getElem?_eq_none (by rw [psetL_length]; omega)]
    rw [← h3]
  · cases h
theorem zeroSet (w : World) : (zeroValue 117).run Tryz.prog w = .ok (.agg (psetL fun _ => false).toArray) w := by kernel_rfl
/-- The map tells the conflicts of some declarations. -/
structure CfIs (ss : List Sc) (D : DataW Unit) (dl : List (Int × Int)) : Prop where
  look : ∀ (k : Nat) (p : Int × Int), dl[k]? = some p → ∀ z, D.atKey (plLit p.1 p.2) z = psD (cfS ss k)
  small : ∀ p ∈ dl, (Lit.int .i64 p.1).wf = true ∧ (Lit.int .i64 p.2).wf = true
def CfW (ss : List Sc) (w : World) (M n : Nat) (dl : List (Int × Int)) : Prop := ∃ D : DataW Unit, w.ownsMap Tryz.prog 59 psR M n D ∧ CfIs ss D dl
theorem CfW.below {ss : List Sc} {w w' : World} {M n : Nat} {dl : List (Int × Int)} (h : CfW ss w M n dl) (hb : Below w.heap.size w w') : CfW ss w' M n dl := by
  obtain ⟨D, h1, h2⟩ := h
  exact ⟨D, ownsMap_same h1 (hb.block M h1.lt), h2⟩
theorem CfIs.put {ss : List Sc} {w : World} {M n : Nat} {D : DataW Unit} {dl : List (Int × Int)} (h1 : w.ownsMap Tryz.prog 59 psR M n D) (h2 : CfIs ss D dl) {a b : Int} (ha : (Lit.int .i64 a).wf = true) (hb : (Lit.int .i64 b).wf = true) (hnew : (a, b) ∉ dl) :
    CfIs ss (D.put (plLit a b) (psD (cfS ss dl.length))) (dl ++ [(a, b)]) := by
  refine ⟨fun k p hk z => ?_, fun p hp => ?_⟩
  · by_cases hlt : k < dl.length
    · rw [List.getElem?_append_left hlt] at hk
      have hm := List.mem_of_getElem? hk
      have hw := h2.small _ hm
      have hne : plLit p.1 p.2 ≠ plLit a b := fun e => by
        obtain ⟨e1, e2⟩ := plLit_inj hw.1 hw.2 ha hb e
        exact hnew (by rw [← e1, ← e2]; exact hm)
      rw [Maps.atKey_put_other hne]
      exact h2.look k p hk z
    · obtain rfl : k = dl.length := by
        have := (List.getElem?_eq_some_iff.1 hk).1
        simp at this
        omega
      rw [List.getElem?_append_right (Nat.le_refl _), Nat.sub_self] at hk
      cases hk
      exact Maps.atKey_put_same h1.isMap (plLit_is _ _) _ _
  · rcases List.mem_append.1 hp with h | h
    · exact h2.small p h
    · rw [List.mem_singleton] at h
      subst h
      exact ⟨ha, hb⟩
theorem cf_look {ss : List Sc} {w : World} {M n : Nat} {dl : List (Int × Int)} (h : CfW ss w M n dl) {k : Nat} {a b : Int} (hk : dl[k]? = some (a, b)) :
    (Instr.lookup 75 (.map (some M)) (.agg #[.int .i64 a, .int .i64 b]) false).run Tryz.prog w = .ok (.agg (psetL (cfS ss k)).toArray) w := by
  obtain ⟨D, h1, h2⟩ := h
  have hw := h2.small _ (List.mem_of_getElem? hk)
  obtain ⟨v, ps, hrun, hv⟩ := h1.lookup (t := 75) (e := 117) placeLaw Tryz.underlying75 (zeroSet _) (psR_mk _) (pl_key hw.1 hw.2)
  have h3 := h2.look k (a, b) hk (psD fun _ => false)
  rw [show (D.atKey (plLit a b) (psD fun _ => false)) = _ from h3] at hv
  obtain rfl := psR_eq hv
  exact hrun
theorem cf_put {ss : List Sc} {w : World} {M n : Nat} {D : DataW Unit} (h1 : w.ownsMap Tryz.prog 59 psR M n D) (hn : n < 100000) {a b : Int} (ha : (Lit.int .i64 a).wf = true) (hb : (Lit.int .i64 b).wf = true) (k : Nat) :
    ∃ w', (Instr.mapUpdate 75 (.map (some M)) (.agg #[.int .i64 a, .int .i64 b]) (.agg (psetL (cfS ss k)).toArray)).run Tryz.prog w = .ok () w' ∧ w'.ownsMap Tryz.prog 59 psR M (n + 1) (D.put (plLit a b) (psD (cfS ss k))) ∧ w.grownBy w' (some M) :=
  h1.update (t := 75) (e := 117) placeLaw Tryz.underlying75 (by unfold maxLen; omega) (pl_key ha hb) (psR_mk _)
set_option maxRecDepth 100000 in
set_option maxHeartbeats 8000000 in
theorem conflicts_any (ss : List Sc) (hF : Fair ss) (oa od : Option Addr) (cap cd N : Nat) (h25 : (dclP ss).length ≤ 25) (w : World) (hN : NbIs w N ss oa cap od cd) (hE : NmgErrs w) :
    Calls Tryz.prog 43 #[.pointer (some ⟨N, 0, none⟩)] w fun e w' => ∃ M n, e = .returned (.map (some M)) ∧ CfW ss w' M n (dclP ss) ∧ Below w.heap.size w w' := by
  have hmm := @run_makeMap Tryz.prog
  have hb0 := (Below.refl w.heap.size w).alloc (Nat.le_refl _) (.map #[] 0)
  have d0 := (hN.below hb0).box.cell nbL_dcl
  have HM0 : Hid ((w.alloc (.map #[] 0)).ownsMap (H := Unit) Tryz.prog 59 psR w.heap.size 0 (.map [])) := Lib.hid (World.ownsMap_made (H := Unit) w Tryz.prog 59 psR)
  have HB0 := Lib.hid hb0
  have HN := Lib.hid hN
  have HF := Lib.hid hF
  have HE := Lib.hid hE
  have HND := Lib.hid (dcl_nodup ss)
  have HSM := Lib.hid (dcl_small hN.ok.1)
  clear hb0 hN hF hE
  go_enter Tryz.func43, Tryz.ntmps43
  go_wp2
  go_loopw [12] (fun v wr => ∃ k : Nat, v = .int .i64 k ∧ k ≤ (dclP ss).length ∧ Hid (Below w.heap.size w wr ∧ ∃ (n : Nat) (D : DataW Unit), n ≤ k ∧ wr.ownsMap Tryz.prog 59 psR w.heap.size n D ∧ CfIs ss D ((dclP ss).take k))) (fun v _ => (dclP ss).length - (intOf v).toNat)
  case atStart => exact ⟨0, rfl, Nat.zero_le _, Lib.hid ⟨HB0.out, 0, .map [], Nat.le_refl _, HM0.out, ⟨fun k p hk => by simp at hk, fun p hp => by simp at hp⟩⟩⟩
  case round =>
    obtain ⟨k, rfl, hk, hP⟩ := hrel
    by_cases hlt : k < (dclP ss).length
    · obtain ⟨⟨a, b⟩, hp⟩ : ∃ p, (dclP ss)[k]? = some p := ⟨_, List.getElem?_eq_getElem hlt⟩
      have HPK := Lib.hid hp
      have HWF := Lib.hid (HSM.out _ (List.mem_of_getElem? hp))
      have HNR := Lib.hid (HN.out.below hP.out.1)
      obtain ⟨b1, f1, rfl, hb1, q1⟩ := HNR.out.dcls.at (by omega)
      obtain ⟨c0, c1⟩ := q1 k _ hp
      have hba := (Below.refl wr.heap.size wr).alloc (Nat.le_refl _) (.cells #[.int .i64 a, .int .i64 b] 59)
      have HBA := Lib.hid hba
      have RP := Lib.hid (Row.new wr [.int .i64 a, .int .i64 b] 59)
      have HSL : Hid (w.heap.size ≤ wr.heap.size) := Lib.hid hP.out.1.size
      have HLT := Lib.hid hlt
      clear hba q1 hp hb1
      go_wp2
      generalize wr.alloc (.cells #[.int .i64 a, .int .i64 b] 59) = wA at *
      have hS0 := And.intro (cell_drew (RP.out.cell (i := 0) (v := .int .i64 a) (by rfl))) (cell_drew (RP.out.cell (i := 1) (v := .int .i64 b) (by rfl)))
      have HS0 := Lib.hid hS0
      have HD0 := Lib.hid ((Below.refl wA.heap.size wA).drew)
      refine wp_region_kept (S := fun w' => w'.cell? ⟨wr.heap.size, 0, none⟩ = some (.int .i64 a) ∧ w'.cell? ⟨wr.heap.size, 1, none⟩ = some (.int .i64 b)) 5 (by kernel_rfl) ?_
      refine KeptAny.tk (v := ?_) 0 hS0 (fun w' hw' => ?_) ?_
      rotate_left
      · (obtain ⟨g0, g1⟩ := hw'; go_simp; try with_reducible rfl)
      refine KeptAny.tk (v := ?_) 1 hS0 (fun w' hw' => ?_) ?_
      rotate_left
      · (obtain ⟨g0, g1⟩ := hw'; go_simp; try with_reducible rfl)
      refine KeptAny.tk (v := ?_) 2 hS0 (fun w' hw' => ?_) ?_
      rotate_left
      · (obtain ⟨g0, g1⟩ := hw'; go_simp; try with_reducible rfl)
      refine KeptAny.tk (v := ?_) 3 hS0 (fun w' hw' => ?_) ?_
      rotate_left
      · (obtain ⟨g0, g1⟩ := hw'; go_simp; try with_reducible rfl)
      clear hS0 c0 c1
      refine KeptAny.one (i := 4) (by kernel_rfl) rfl (by kernel_rfl) (fun K hK => ?_)
      go_simp
      refine ⟨trivial, ?_⟩
      refine ((callsIn_wide (n := 5)).2 (conflictsOf_any ss HF.out oa (some ⟨b1, f1, none⟩) cap cd N k HLT.out h25 _ (HNR.out.below (HBA.out.trans (HD0.out.mono HBA.out.size))) (HE.out.at (hP.out.1.trans ((HBA.out.trans (HD0.out.mono HBA.out.size)).mono HSL.out))))).mono ?_
      rintro e wa ⟨rfl, hba⟩
      have HXA := Lib.hid (hP.out.1.trans ((HBA.out.trans ((HD0.out.trans (hba.mono HD0.out.size)).mono HBA.out.size)).mono HSL.out))
      have HXR := Lib.hid (HBA.out.trans ((HD0.out.trans (hba.mono HD0.out.size)).mono HBA.out.size))
      refine hK.out _ _ ⟨cell_grow hba HS0.out.1, cell_grow hba HS0.out.2⟩ (fun _ => ?_)
      clear hK hba
      obtain ⟨n, D, hn, hm, hcf⟩ := hP.out.2
      have hma := ownsMap_same hm (HXR.out.block _ hm.lt)
      obtain ⟨w7, hrun, hm7, hg7⟩ := cf_put (ss := ss) hma (by omega) HWF.out.1 HWF.out.2 k
      have hnew : (a, b) ∉ (dclP ss).take k := fun hx => by
        obtain ⟨j, hj⟩ := List.mem_iff_getElem?.1 hx
        have hjk : j < k := by have := (List.getElem?_eq_some_iff.1 hj).1; rw [List.length_take] at this; omega
        rw [List.getElem?_take_of_lt hjk] at hj
        have e1 := posOf_at HND.out hj
        have e2 := posOf_at HND.out HPK.out
        omega
      have hlk : ((dclP ss).take k).length = k := by rw [List.length_take]; omega
      have HX : Hid (Below w.heap.size w w7 ∧ ∃ (n : Nat) (D : DataW Unit), n ≤ k + 1 ∧ w7.ownsMap Tryz.prog 59 psR w.heap.size n D ∧ CfIs ss D ((dclP ss).take (k + 1))) := Lib.hid (by
        refine ⟨HXA.out.trans (below_grown1' hg7 HXA.out.size (fun r e => by cases e; exact Nat.le_refl _)), n + 1, _, by omega, hm7, ?_⟩
        rw [List.take_add_one, HPK.out]
        have h9 := hcf.put hma HWF.out.1 HWF.out.2 hnew
        rw [hlk] at h9
        exact h9)
      have HRUN := Lib.hid hrun
      clear hm hcf hma hm7 hg7 hnew hlk hrun
      refine KeptAny.last (by kernel_rfl) rfl (by kernel_rfl) (fun K hK => ?_)
      have hrun := HRUN.out
      go_simp
      refine hK.out _ _ ?_
      clear hK hrun
      refine KeptAny.done (by kernel_rfl) ?_ _
      go_wp2
      go_roundw
      case rel => exact ⟨k + 1, by go_num, by omega, HX⟩
      case measure => simp only [intOf]; omega
    · obtain rfl : k = (dclP ss).length := by omega
      obtain ⟨n, D, hn, hm, hcf⟩ := hP.out.2
      rw [List.take_length] at hcf
      have HC := Lib.hid (show CfW ss wr w.heap.size n (dclP ss) from ⟨D, hm, hcf⟩)
      clear hm hcf
      go_wp2
      go_ret
      exact ⟨w.heap.size, n, rfl, HC.out, hP.out.1⟩
end Go.Proofs.YtgehpaojbnpbcaaGreatDoor
namespace Go.Proofs.YtgehpaojbnpbcaaGreatDoor
open Go Go.RowKit Go.Maps
theorem cfUp_mem {ss : List Sc} {i : Nat} {p : Int × Int} : ∀ {n : Nat}, p ∈ cfUp ss i n ↔ ∃ k, k < n ∧ (dclP ss)[k]? = some p ∧ i ≠ k ∧ ¬ goodN ss (pairL (dclP ss).length i k)
  | 0 => by
    constructor
    · intro h; cases h
    · rintro ⟨k, h, -⟩; omega
  | n + 1 => by
    have ih := cfUp_mem (ss := ss) (i := i) (p := p) (n := n)
    show p ∈ cfUp ss i n ++ _ ↔ _
    rw [List.mem_append, ih]
    constructor
    · rintro (⟨k, h1, h2⟩ | h)
      · exact ⟨k, by omega, h2⟩
      · cases hn : (dclP ss)[n]? with
        | none => rw [hn] at h; cases h
        | some q =>
          rw [hn] at h
          dsimp only at h
          split at h
          · rename_i hc
            rw [List.mem_singleton] at h
            subst h
            exact ⟨n, by omega, hn, hc⟩
          · cases h
    · rintro ⟨k, h1, h2, h3⟩
      by_cases hk : k = n
      · subst hk
        refine .inr ?_
        rw [h2]
        dsimp only
        rw [if_pos h3]
        exact List.mem_singleton.2 rfl
      · exact .inl ⟨k, by omega, h2, h3⟩
theorem cf_has {ss : List Sc} (hv : Valid ss) {i k a b : Nat} (hk : (dclP ss)[k]? = some ((a : Int), (b : Int))) : cfS ss i (a * 5 + b) = decide (i ≠ k ∧ ¬ goodN ss (pairL (dclP ss).length i k)) := by
  unfold cfS inPl
  rw [Bool.eq_iff_iff, List.any_eq_true, decide_eq_true_iff]
  have hsp := dcl_smallP hv
  obtain ⟨a', b', e, ha, hb⟩ := hsp _ (List.mem_of_getElem? hk)
  have e1 := (Prod.mk.inj e).1
  have e2 := (Prod.mk.inj e).2
  constructor
  · rintro ⟨p, hp, hn⟩
    obtain ⟨m, -, hm, hc⟩ := cfUp_mem.1 hp
    obtain ⟨c, d, rfl, hc1, hd1⟩ := hsp _ (List.mem_of_getElem? hm)
    rw [beq_iff_eq] at hn
    dsimp only at hn
    have : ((c : Int), (d : Int)) = ((a : Int), (b : Int)) := by rw [Prod.mk.injEq]; omega
    rw [this] at hm
    have h1 := posOf_at (dcl_nodup ss) hm
    have h2 := posOf_at (dcl_nodup ss) hk
    obtain rfl : m = k := by omega
    exact hc
  · intro h
    exact ⟨_, cfUp_mem.2 ⟨k, (List.getElem?_eq_some_iff.1 hk).1, hk, h⟩, by rw [beq_iff_eq]; dsimp only; omega⟩
end Go.Proofs.YtgehpaojbnpbcaaGreatDoor
namespace Go.Proofs.YtgehpaojbnpbcaaGreatDoor
open Go Go.RowKit Go.Maps
/-- The cells of a partition. -/
def ptL (l : List Nat) : List Value := (List.range 7).map fun i => .int .u8 (match l[i]? with | some k => ((97 + k : Nat) : Int) | none => 0)
theorem ptL_length (l : List Nat) : (ptL l).length = 7 := by simp [ptL]
theorem ptL_get {l : List Nat} {i k : Nat} (hi : i < 7) (h : l[i]? = some k) : (ptL l)[i]? = some (.int .u8 ((97 + k : Nat) : Int)) := by
  unfold ptL
  rw [List.getElem?_map, List.getElem?_range hi]
  simp only [Option.map_some]
  rw [h]
/-- No two among the first k that have one letter are in conflict. -/
def AllUp (ss : List Sc) (l : List Nat) (k m : Nat) : Prop := (∀ a b, a < b → b < k → l[a]? = l[b]? → goodN ss (pairL (dclP ss).length b a)) ∧ ∀ a, a < m → l[a]? = l[k]? → goodN ss (pairL (dclP ss).length k a)
theorem AllUp.zero (ss : List Sc) (l : List Nat) : AllUp ss l 0 0 := ⟨fun a b _ h => absurd h (by omega), fun a h => absurd h (by omega)⟩
theorem AllUp.row {ss : List Sc} {l : List Nat} {k : Nat} (h : AllUp ss l k k) : AllUp ss l (k + 1) 0 := by
  refine ⟨fun a b hab hb he => ?_, fun a h => absurd h (by omega)⟩
  by_cases hk : b = k
  · subst hk
    exact h.2 a hab he
  · exact h.1 a b hab (by omega) he
theorem AllUp.step {ss : List Sc} {l : List Nat} {k m : Nat} (h : AllUp ss l k m) (hg : l[m]? = l[k]? → goodN ss (pairL (dclP ss).length k m)) : AllUp ss l k (m + 1) := by
  refine ⟨h.1, fun a ha he => ?_⟩
  by_cases hm : a = m
  · subst hm
    exact hg he
  · exact h.2 a (by omega) he
set_option maxRecDepth 100000 in
set_option maxHeartbeats 8000000 in
theorem allows_any (ss : List Sc) (hok : Valid ss ∧ Clear ss) (od : Option Addr) (cd M nM : Nat) (hcap : (dclP ss).length ≤ cd) (l : List Nat) (hl : l.length = (dclP ss).length) (h7 : (dclP ss).length ≤ 7) (hlt7 : ∀ k ∈ l, k < 7) (w : World) (hd : ArgPlaces w od (dclP ss)) (hm : CfW ss w M nM (dclP ss)) :
    Calls Tryz.prog 45 #[.map (some M), .slice od (dclP ss).length cd, .agg (ptL l).toArray] w fun e w' => e = .returned (.bool (decide (goodN ss l))) ∧ Below w.heap.size w w' := by
  obtain ⟨q0, hq0⟩ : ∃ b, decide (goodN ss l) = b := ⟨_, rfl⟩
  rw [hq0]
  have HQ0 : Hid (q0 = true ↔ ∀ a b, a < b → b < l.length → l[a]? = l[b]? → goodN ss (pairL (dclP ss).length b a)) := Lib.hid (by
    rw [← hq0, decide_eq_true_iff]
    exact good_pairs hok hl (fun k hk => by have := hlt7 k hk; omega) (by omega))
  clear hq0
  have HL := Lib.hid hl
  have hb0 := (Below.refl w.heap.size w).alloc (Nat.le_refl _) (.cells (ptL l).toArray 86)
  have HB0 := Lib.hid hb0
  have HD := Lib.hid (hd.below hb0)
  have HM := Lib.hid (hm.below hb0)
  have HSP := Lib.hid (dcl_smallP hok.1)
  have HV := Lib.hid hok.1
  have HP7 := Lib.hid (fun (i k : Nat) (h : i < 7) (hk : l[i]? = some k) => ptL_get h hk)
  have HPT := Lib.hid (Row.new w (ptL l) 86)
  clear hd hm hl hlt7 hok hb0
  go_enter Tryz.func45, Tryz.ntmps45
  go_wp2
  generalize w.alloc (.cells (ptL l).toArray 86) = w0 at *
  generalize (ptL l).toArray = PT at *
  go_loopw [14] (fun v wr => ∃ k : Nat, v = .int .i64 k ∧ k ≤ (dclP ss).length ∧ Hid (Below w0.heap.size w0 wr ∧ AllUp ss l k 0)) (fun v _ => (dclP ss).length - (intOf v).toNat)
  case atStart => exact ⟨0, rfl, Nat.zero_le _, Lib.hid ⟨Below.refl _ _, AllUp.zero _ _⟩⟩
  case round =>
    obtain ⟨k, rfl, hk, hP⟩ := hrel
    by_cases hlt : k < (dclP ss).length
    · obtain ⟨p, hp⟩ : ∃ p, (dclP ss)[k]? = some p := ⟨_, List.getElem?_eq_getElem hlt⟩
      obtain ⟨x, y, rfl, hx6, hy5⟩ := HSP.out p (List.mem_of_getElem? hp)
      obtain ⟨b1, f1, rfl, hb1, q1⟩ := (HD.out.below hP.out.1).at (by omega)
      obtain ⟨c0, c1⟩ := q1 k _ hp
      have HPK := Lib.hid hp
      have hba := (Below.refl wr.heap.size wr).alloc (Nat.le_refl _) (.cells #[.int .i64 (x : Int), .int .i64 (y : Int)] 59)
      have HBA := Lib.hid (hP.out.1.trans (hba.mono hP.out.1.size))
      have RP := Lib.hid (Row.new wr [.int .i64 (x : Int), .int .i64 (y : Int)] 59)
      have p0 := RP.out.cell (i := 0) (v := .int .i64 (x : Int)) (by rfl)
      have p1 := RP.out.cell (i := 1) (v := .int .i64 (y : Int)) (by rfl)
      have hlk := cf_look (HM.out.below HBA.out) hp
      have hz := Row.new (wr.alloc (.cells #[.int .i64 (x : Int), .int .i64 (y : Int)] 59)) [.bool false, .bool false, .bool false, .bool false, .bool false, .bool false, .bool false, .bool false, .bool false, .bool false, .bool false, .bool false, .bool false, .bool false, .bool false, .bool false, .bool false, .bool false, .bool false, .bool false, .bool false, .bool false, .bool false, .bool false, .bool false, .bool false, .bool false, .bool false, .bool false, .bool false] 117
      rw [World.size_alloc] at hz
      have hbZ := (Below.refl (wr.alloc (.cells #[.int .i64 (x : Int), .int .i64 (y : Int)] 59)).heap.size (wr.alloc (.cells #[.int .i64 (x : Int), .int .i64 (y : Int)] 59))).alloc (Nat.le_refl _) (.cells #[.bool false, .bool false, .bool false, .bool false, .bool false, .bool false, .bool false, .bool false, .bool false, .bool false, .bool false, .bool false, .bool false, .bool false, .bool false, .bool false, .bool false, .bool false, .bool false, .bool false, .bool false, .bool false, .bool false, .bool false, .bool false, .bool false, .bool false, .bool false, .bool false, .bool false] 117)
      have hbR := hbZ.trans (below_setRow _ (wr.heap.size + 1) (psetL (cfS ss k)).toArray (by simp))
      have HRS := Lib.hid (show Row (((wr.alloc (.cells #[.int .i64 (x : Int), .int .i64 (y : Int)] 59)).alloc (.cells #[.bool false, .bool false, .bool false, .bool false, .bool false, .bool false, .bool false, .bool false, .bool false, .bool false, .bool false, .bool false, .bool false, .bool false, .bool false, .bool false, .bool false, .bool false, .bool false, .bool false, .bool false, .bool false, .bool false, .bool false, .bool false, .bool false, .bool false, .bool false, .bool false, .bool false] 117)).setRow (wr.heap.size + 1) (psetL (cfS ss k)).toArray) (wr.heap.size + 1) 117 (psetL (cfS ss k)) from setRow_heap _ _ _ _ _ _ hz)
      have HB4 := Lib.hid (HBA.out.trans (hbR.mono HBA.out.size))
      have HPTS := Lib.hid (HPT.out.below HB4.out HPT.out.lt)
      have HDS := Lib.hid (HD.out.below HB4.out)
      have hkc : (k : Int) ≤ (cd : Int) := by omega
      have hk0 : (0 : Int) ≤ (k : Int) := by omega
      unfold Row at hz
      clear hba q1 hp hb1 hbZ hbR
      go_upto_region 5 with (refine wpList_store_row rfl 117 _ _ rfl (wr.heap.size + 1) (psetL (cfS ss k)).toArray rfl rfl 117 _ hz (psetL_info _) (by simp [psetL_length]) (psetL_one _) ?_)
      clear hz p0 p1 hlk c0 c1
      generalize ((wr.alloc (.cells #[.int .i64 (x : Int), .int .i64 (y : Int)] 59)).alloc (.cells #[.bool false, .bool false, .bool false, .bool false, .bool false, .bool false, .bool false, .bool false, .bool false, .bool false, .bool false, .bool false, .bool false, .bool false, .bool false, .bool false, .bool false, .bool false, .bool false, .bool false, .bool false, .bool false, .bool false, .bool false, .bool false, .bool false, .bool false, .bool false, .bool false, .bool false] 117)).setRow (wr.heap.size + 1) (psetL (cfS ss k)).toArray = wS at *
      generalize wr.heap.size = Z at *
      go_wp2
      go_loopw [26] (fun v wi => ∃ m : Nat, v = .int .i64 m ∧ m ≤ k ∧ Hid (Below wS.heap.size wS wi ∧ AllUp ss l k m)) (fun v _ => k - (intOf v).toNat)
      case atStart => exact ⟨0, rfl, Nat.zero_le _, Lib.hid ⟨Below.refl _ _, hP.out.2⟩⟩
      case round =>
        obtain ⟨m, rfl, hm, hI⟩ := hrel
        by_cases hmk : m < k
        · obtain ⟨p2, hp2⟩ : ∃ p, (dclP ss)[m]? = some p := ⟨_, List.getElem?_eq_getElem (by omega)⟩
          obtain ⟨x2, y2, rfl, hx2, hy2⟩ := HSP.out p2 (List.mem_of_getElem? hp2)
          obtain ⟨b2, f2, he2, hb2, q2⟩ := (HDS.out.below hI.out.1).at (by omega)
          cases he2
          obtain ⟨c0, c1⟩ := q2 m _ hp2
          obtain ⟨lk, hlk⟩ : ∃ z, l[k]? = some z := ⟨_, List.getElem?_eq_getElem (by have := HL.out; omega)⟩
          obtain ⟨lm, hlm⟩ : ∃ z, l[m]? = some z := ⟨_, List.getElem?_eq_getElem (by have := HL.out; omega)⟩
          have hba2 := (Below.refl wr.heap.size wr).alloc (Nat.le_refl _) (.cells #[.int .i64 (x2 : Int), .int .i64 (y2 : Int)] 59)
          have HBI := Lib.hid (hI.out.1.trans (hba2.mono hI.out.1.size))
          have RQ := Row.new wr [.int .i64 (x2 : Int), .int .i64 (y2 : Int)] 59
          have s0 := (HPTS.out.below HBI.out HPTS.out.lt).cell (HP7.out k lk (by omega) hlk)
          have s1 := (HPTS.out.below HBI.out HPTS.out.lt).cell (HP7.out m lm (by omega) hlm)
          have s2 := RQ.cell (i := 0) (v := .int .i64 (x2 : Int)) (by rfl)
          have s3 := RQ.cell (i := 1) (v := .int .i64 (y2 : Int)) (by rfl)
          have RS2 := Lib.hid (HRS.out.below HBI.out HRS.out.lt)
          have HLK := Lib.hid (And.intro hlk hlm)
          have HCH := Lib.hid (cf_has HV.out (i := k) hp2)
          have hk7 : (k : Int) < 7 := by omega
          have hm7 : (m : Int) < 7 := by omega
          clear q2 hb2 hba2 RQ hlk hlm hp2
          go_wp2
          generalize wr.alloc (.cells #[.int .i64 (x2 : Int), .int .i64 (y2 : Int)] 59) = wA at *
          by_cases he : lk = lm
          · have e1 : (((97 + lk : Nat) : Int) == ((97 + lm : Nat) : Int)) = true := by rw [he]; simp
            have hS0 := And.intro (cell_drew s0) (And.intro (cell_drew s1) (And.intro (cell_drew s2) (cell_drew s3)))
            have HS0 := Lib.hid hS0
            have HD0 := Lib.hid ((Below.refl wA.heap.size wA).drew)
            have HEQ : Hid (l[m]? = l[k]?) := Lib.hid (by rw [HLK.out.1, HLK.out.2, he])
            clear s0 s1 s2 s3 c0 c1
            refine wp_region_kept (S := fun w' => w'.cell? ⟨w.heap.size, k, none⟩ = some (.int .u8 ((97 + lk : Nat) : Int)) ∧ w'.cell? ⟨w.heap.size, m, none⟩ = some (.int .u8 ((97 + lm : Nat) : Int)) ∧ w'.cell? ⟨wr.heap.size, 0, none⟩ = some (.int .i64 (x2 : Int)) ∧ w'.cell? ⟨wr.heap.size, 1, none⟩ = some (.int .i64 (y2 : Int))) 99 (by kernel_rfl) ?_
            refine KeptAny.tk (v := ?_) 0 hS0 (fun w' hw' => ?_) ?_
            rotate_left
            · (obtain ⟨g0, g1, g2, g3⟩ := hw'; go_simp; try with_reducible rfl)
            refine KeptAny.tk (v := ?_) 1 hS0 (fun w' hw' => ?_) ?_
            rotate_left
            · (obtain ⟨g0, g1, g2, g3⟩ := hw'; go_simp; try with_reducible rfl)
            refine KeptAny.tk (v := .int .u8 ((97 + lk : Nat) : Int)) 2 hS0 (fun w' hw' => ?_) ?_
            · (obtain ⟨g0, g1, g2, g3⟩ := hw'; go_simp; try with_reducible rfl)
            refine KeptAny.tk (v := ?_) 3 hS0 (fun w' hw' => ?_) ?_
            rotate_left
            · (obtain ⟨g0, g1, g2, g3⟩ := hw'; go_simp; try with_reducible rfl)
            refine KeptAny.tk (v := ?_) 4 hS0 (fun w' hw' => ?_) ?_
            rotate_left
            · (obtain ⟨g0, g1, g2, g3⟩ := hw'; go_simp; try with_reducible rfl)
            refine KeptAny.tk (v := .int .u8 ((97 + lm : Nat) : Int)) 5 hS0 (fun w' hw' => ?_) ?_
            · (obtain ⟨g0, g1, g2, g3⟩ := hw'; go_simp; try with_reducible rfl)
            refine KeptAny.tk (v := .bool true) 6 hS0 (fun w' hw' => ?_) ?_
            · (obtain ⟨g0, g1, g2, g3⟩ := hw'; go_simp; try with_reducible rfl)
            refine KeptAny.tk (v := .bool true) 7 hS0 (fun w' hw' => ?_) ?_
            · (obtain ⟨g0, g1, g2, g3⟩ := hw'; go_simp; try with_reducible rfl)
            refine KeptAny.tk (v := ?_) 8 hS0 (fun w' hw' => ?_) ?_
            rotate_left
            · (obtain ⟨g0, g1, g2, g3⟩ := hw'; go_simp; try with_reducible rfl)
            clear hS0
            refine KeptAny.one (i := 9) (by kernel_rfl) rfl (by kernel_rfl) (fun K hK => ?_)
            go_simp
            refine ⟨trivial, ?_⟩
            refine ((callsIn_wide (n := 5)).2 (phas_any (RS2.out.below HD0.out RS2.out.lt) hx2 hy2)).mono ?_
            rintro e w6 ⟨rfl, hb6⟩
            have HB6 := Lib.hid (HBI.out.trans ((HD0.out.trans (hb6.mono HD0.out.size)).mono HBI.out.size))
            have hS0 := And.intro (cell_grow hb6 HS0.out.1) (And.intro (cell_grow hb6 HS0.out.2.1) (And.intro (cell_grow hb6 HS0.out.2.2.1) (cell_grow hb6 HS0.out.2.2.2)))
            refine hK.out _ _ hS0 (fun _ => ?_)
            clear hK hb6
            obtain ⟨z, hz⟩ : ∃ z, cfS ss k (x2 * 5 + y2) = z := ⟨_, rfl⟩
            rw [hz]
            have HZ : Hid (z = true ↔ ¬ goodN ss (pairL (dclP ss).length k m)) := Lib.hid (by
              rw [← hz, HCH.out, decide_eq_true_iff]
              exact ⟨fun h => h.2, fun h => ⟨by omega, h⟩⟩)
            clear hz
            refine KeptAny.tk (v := .bool z) 10 hS0 (fun w' hw' => ?_) ?_
            · (go_simp; try with_reducible rfl)
            clear hS0
            refine KeptAny.done (by kernel_rfl) ?_ _
            cases z
            · have hg : goodN ss (pairL (dclP ss).length k m) := Decidable.byContradiction fun h => by have := HZ.out.2 h; cases this
              have HX := Lib.hid (hI.out.2.step fun _ => hg)
              clear hg
              go_wp2
              go_roundw
              case rel => exact ⟨m + 1, by go_num, by omega, Lib.hid ⟨HB6.out, HX.out⟩⟩
              case measure => simp only [intOf]; omega
            · have HF : Hid (q0 = false) := Lib.hid (by
                cases hq : q0 with
                | false => rfl
                | true => exact absurd (HQ0.out.1 hq m k hmk (by have := HL.out; omega) HEQ.out) (HZ.out.1 rfl))
              have HBE := Lib.hid (HB0.out.trans ((HB4.out.trans (HB6.out.mono HB4.out.size)).mono HB0.out.size))
              go_wp2
              go_ret
              exact ⟨by rw [HF.out]; rfl, HBE.out⟩
          · have e1 : (((97 + lk : Nat) : Int) == ((97 + lm : Nat) : Int)) = false := by rw [beq_eq_false_iff_ne]; omega
            have e2 : ((97 + (lk : Int)) == (97 + (lm : Int))) = false := by rw [beq_eq_false_iff_ne]; omega
            have e3 : ((lk : Int) == (lm : Int)) = false := by rw [beq_eq_false_iff_ne]; omega
            have e4 : (lk == lm) = false := by rw [beq_eq_false_iff_ne]; exact he
            have HX := Lib.hid (hI.out.2.step fun h => by rw [HLK.out.1, HLK.out.2] at h; exact absurd (Option.some.inj h).symm he)
            have HDR : Hid (∀ (W : World) (q : Nat), World.drewN wA q = W → Below wS.heap.size wS W) := Lib.hid (fun W q e => by
              subst e
              exact below_drewN HBI.out q)
            clear he
            go_quiet (fail)
            generalize hWD : World.drewN _ _ = wD
            have HBD := Lib.hid (HDR.out _ _ hWD)
            clear hWD s0 s1 s2 s3 c0 c1
            go_wp2
            go_roundw
            case rel => exact ⟨m + 1, by go_num, by omega, Lib.hid ⟨HBD.out, HX.out⟩⟩
            case measure => simp only [intOf]; omega
        · obtain rfl : m = k := by omega
          have HX := Lib.hid (And.intro (HB4.out.trans (hI.out.1.mono HB4.out.size)) hI.out.2.row)
          go_wp2
          go_roundw
          case rel => exact ⟨m + 1, by go_num, by omega, HX⟩
          case measure => simp only [intOf]; omega
    · obtain rfl : k = (dclP ss).length := by omega
      have HT : Hid (q0 = true) := Lib.hid (HQ0.out.2 (by rw [HL.out]; exact hP.out.2.1))
      go_wp2
      go_ret
      exact ⟨by rw [HT.out]; rfl, HB0.out.trans (hP.out.1.mono HB0.out.size)⟩
end Go.Proofs.YtgehpaojbnpbcaaGreatDoor
namespace Go.Proofs.YtgehpaojbnpbcaaGreatDoor
open Go Go.RowKit Go.Maps
theorem ptL_snoc {l : List Nat} (h : l.length < 7) (x : Nat) : (ptL l).set l.length (.int .u8 ((97 + x : Nat) : Int)) = ptL (l ++ [x]) := by
  refine List.ext_getElem? fun i => ?_
  rw [List.getElem?_set, ptL_length]
  by_cases hi : i < 7
  · by_cases he : l.length = i
    · rw [if_pos he, if_pos (by omega), ptL_get (k := x) hi (by rw [← he]; simp)]
    · rw [if_neg he]
      unfold ptL
      rw [List.getElem?_map, List.getElem?_map, List.getElem?_range hi]
      simp only [Option.map_some]
      by_cases hlt : i < l.length
      · rw [List.getElem?_append_left hlt]
      · rw [List.getElem?_eq_none (by omega), List.getElem?_eq_none (by rw [List.length_append, List.length_singleton]; omega)]
  · have h1 : (ptL (l ++ [x]))[i]? = none := List.getElem?_eq_none (by rw [ptL_length]; omega)
    have h2 : (ptL l)[i]? = none := List.getElem?_eq_none (by rw [ptL_length]; omega)
    rw [h1, h2, if_neg (by omega)]
theorem ptL_one (l : List Nat) : (ptL l).toArray.all (·.oneCell') = true := by
  refine Array.all_eq_true_iff_forall_mem.2 fun v hv => ?_
  rw [List.mem_toArray] at hv
  obtain ⟨k, -, rfl⟩ := List.mem_map.1 hv
  rfl
theorem ptL_info (l : List Nat) : (Tryz.prog.info? 86).map (·.size) = some (ptL l).toArray.size := by
  rw [List.size_toArray, ptL_length]
  kernel_rfl
theorem lettersL_at : ∀ (m : Nat) (h : m < (⟨#[97, 98, 99, 100, 101, 102, 103, 104, 105, 106, 107, 108, 109, 110, 111, 112, 113, 114, 115, 116, 117, 118, 119, 120, 121, 122]⟩ : ByteArray).size), ((⟨#[97, 98, 99, 100, 101, 102, 103, 104, 105, 106, 107, 108, 109, 110, 111, 112, 113, 114, 115, 116, 117, 118, 119, 120, 121, 122]⟩ : ByteArray)[m]'h).toNat = 97 + m := by decide +kernel
theorem spreadL_get {c m k : Nat} (hk : k < c) : (spreadL c m)[k]? = some (min k (m - 1)) := by
  unfold spreadL
  rw [List.getElem?_map, List.getElem?_range hk]
  rfl
set_option maxRecDepth 100000 in
set_option maxHeartbeats 4000000 in
theorem spread_any (c m : Nat) (hc : c ≤ 7) (hm1 : 1 ≤ m) (hm : m ≤ 7) (w : World) :
    Calls Tryz.prog 70 #[.int .i64 (c : Int), .int .i64 (m : Int)] w fun e w' => e = .returned (.agg (ptL (spreadL c m)).toArray) ∧ Below w.heap.size w w' := by
  have hb0 := ((Below.refl w.heap.size w).alloc (Nat.le_refl _) (.cells #[.int .u8 0, .int .u8 0, .int .u8 0, .int .u8 0, .int .u8 0, .int .u8 0, .int .u8 0] 86)).alloc (by simp) (.cells #[.int .u8 0, .int .u8 0, .int .u8 0, .int .u8 0, .int .u8 0, .int .u8 0, .int .u8 0] 86)
  have R1 := (Row.new w [.int .u8 0, .int .u8 0, .int .u8 0, .int .u8 0, .int .u8 0, .int .u8 0, .int .u8 0] 86).alloc (.cells #[.int .u8 0, .int .u8 0, .int .u8 0, .int .u8 0, .int .u8 0, .int .u8 0, .int .u8 0] 86)
  have R2 := Row.new (w.alloc (.cells #[.int .u8 0, .int .u8 0, .int .u8 0, .int .u8 0, .int .u8 0, .int .u8 0, .int .u8 0] 86)) [.int .u8 0, .int .u8 0, .int .u8 0, .int .u8 0, .int .u8 0, .int .u8 0, .int .u8 0] 86
  rw [World.size_alloc] at R2
  have e0 : ptL [] = [.int .u8 0, .int .u8 0, .int .u8 0, .int .u8 0, .int .u8 0, .int .u8 0, .int .u8 0] := by kernel_rfl
  have H0 : Hid (Below w.heap.size w ((w.alloc (.cells #[.int .u8 0, .int .u8 0, .int .u8 0, .int .u8 0, .int .u8 0, .int .u8 0, .int .u8 0] 86)).alloc (.cells #[.int .u8 0, .int .u8 0, .int .u8 0, .int .u8 0, .int .u8 0, .int .u8 0, .int .u8 0] 86)) ∧ Row ((w.alloc (.cells #[.int .u8 0, .int .u8 0, .int .u8 0, .int .u8 0, .int .u8 0, .int .u8 0, .int .u8 0] 86)).alloc (.cells #[.int .u8 0, .int .u8 0, .int .u8 0, .int .u8 0, .int .u8 0, .int .u8 0, .int .u8 0] 86)) (w.heap.size + 1) 86 (ptL ((spreadL c m).take 0)) ∧ Row ((w.alloc (.cells #[.int .u8 0, .int .u8 0, .int .u8 0, .int .u8 0, .int .u8 0, .int .u8 0, .int .u8 0] 86)).alloc (.cells #[.int .u8 0, .int .u8 0, .int .u8 0, .int .u8 0, .int .u8 0, .int .u8 0, .int .u8 0] 86)) w.heap.size 86 (ptL [])) := Lib.hid (by
    rw [List.take_zero, e0]
    exact ⟨hb0, R2, R1⟩)
  clear e0
  have hw1 : IntKind.i64.wrap ((m : Int) - 1) = ((m - 1 : Nat) : Int) := by rw [wrap_small _ (by omega) (by omega)]; omega
  have HAT := Lib.hid lettersL_at
  clear hb0 R1 R2
  go_enter Tryz.func70, Tryz.ntmps70
  have hsz : (⟨#[97, 98, 99, 100, 101, 102, 103, 104, 105, 106, 107, 108, 109, 110, 111, 112, 113, 114, 115, 116, 117, 118, 119, 120, 121, 122]⟩ : ByteArray).size = 26 := by decide +kernel
  generalize (⟨#[97, 98, 99, 100, 101, 102, 103, 104, 105, 106, 107, 108, 109, 110, 111, 112, 113, 114, 115, 116, 117, 118, 119, 120, 121, 122]⟩ : ByteArray) = L at *
  have HSZ := Lib.hid hsz
  clear hsz
  go_wp2
  go_loopw [8] (fun v wr => ∃ k : Nat, v = .int .i64 k ∧ k ≤ c ∧ Hid (Below w.heap.size w wr ∧ Row wr (w.heap.size + 1) 86 (ptL ((spreadL c m).take k)) ∧ Row wr w.heap.size 86 (ptL []))) (fun v _ => c - (intOf v).toNat)
  case atStart => exact ⟨0, rfl, Nat.zero_le _, H0⟩
  case round =>
    obtain ⟨k, rfl, hk, hP⟩ := hrel
    by_cases hlt : k < c
    · have hln : ((spreadL c m).take k).length = k := by rw [List.length_take, spreadL_length]; omega
      obtain ⟨z, hz⟩ : ∃ z, min k (m - 1) = z := ⟨_, rfl⟩
      have hzl : z < L.size := by have := HSZ.out; omega
      have hlz := HAT.out z hzl
      have hsn := ptL_snoc (l := (spreadL c m).take k) (by omega) z
      rw [hln, show ((97 + z : Nat) : Int) = 97 + (z : Int) by omega] at hsn
      have HTK : Hid (ptL ((spreadL c m).take (k + 1)) = (ptL ((spreadL c m).take k)).set k (.int .u8 (97 + (z : Int)))) := Lib.hid (by
        rw [hsn, List.take_add_one, spreadL_get hlt, hz]
        rfl)
      obtain ⟨v0, hv0⟩ : ∃ v, (ptL ((spreadL c m).take k))[k]? = some v := ⟨_, List.getElem?_eq_getElem (by rw [ptL_length]; omega)⟩
      have t0 := hP.out.2.1.cell hv0
      have tf := hP.out.2.1.frozen k
      have HX : Hid (Below w.heap.size w (wr.setCell ⟨w.heap.size + 1, k, none⟩ (.int .u8 (97 + (z : Int)))) ∧ Row (wr.setCell ⟨w.heap.size + 1, k, none⟩ (.int .u8 (97 + (z : Int)))) (w.heap.size + 1) 86 (ptL ((spreadL c m).take (k + 1))) ∧ Row (wr.setCell ⟨w.heap.size + 1, k, none⟩ (.int .u8 (97 + (z : Int)))) w.heap.size 86 (ptL [])) := Lib.hid (by
        rw [HTK.out]
        exact ⟨hP.out.1.setCell (p := ⟨w.heap.size + 1, k, none⟩) (Nat.le_succ _) _, hP.out.2.1.set k _, hP.out.2.2.other (a := ⟨w.heap.size + 1, k, none⟩) (by show w.heap.size + 1 ≠ w.heap.size; omega) _⟩)
      have hk7 : (k : Int) < 7 := by omega
      have hlz2 : ((L[z]'hzl).toNat : Int) = 97 + (z : Int) := by rw [hlz]; omega
      clear hln hsn hv0
      by_cases hb : k < m - 1
      · obtain rfl : z = k := by omega
        have f1 : (z : Int) < ((m - 1 : Nat) : Int) := by omega
        have f2 : ¬ ((m - 1 : Nat) : Int) < (z : Int) := by omega
        clear hz hb
        go_wp2
        go_roundw
        case rel => exact ⟨z + 1, by go_num, by omega, HX⟩
        case measure => simp only [intOf]; omega
      · have hzm : ((m - 1 : Nat) : Int) = (z : Int) := by omega
        have hw2 : IntKind.i64.wrap ((m : Int) - 1) = (z : Int) := hw1.trans hzm
        by_cases hkz : k = z
        · obtain rfl : z = k := hkz.symm
          clear hz hb hw1 hzm hkz
          go_wp2
          go_roundw
          case rel => exact ⟨z + 1, by go_num, by omega, HX⟩
          case measure => simp only [intOf]; omega
        · have f1 : (z : Int) < (k : Int) := by omega
          have f2 : ¬ (k : Int) < (z : Int) := by omega
          clear hz hb hw1 hzm hkz
          go_wp2
          go_roundw
          case rel => exact ⟨k + 1, by go_num, by omega, HX⟩
          case measure => simp only [intOf]; omega
    · obtain rfl : k = c := by omega
      have hs1 := hP.out.2.1
      have hs2 := hP.out.2.2
      rw [List.take_of_length_le (by rw [spreadL_length]; exact Nat.le_refl _)] at hs1
      unfold Row at hs1 hs2
      have HSX := Lib.hid hs2
      go_wp2_with (first
        | (refine wpList_load_row rfl 86 _ rfl (w.heap.size + 1) rfl 86 _ (0, 0) _ hs1 Tryz.underlying86 rfl (ptL_info _) ?_)
        | (refine wpList_store_row rfl 86 _ _ rfl w.heap.size (ptL (spreadL k m)).toArray rfl rfl 86 _ hs2 (ptL_info _) (by simp [ptL_length]) (ptL_one _) ?_))
      exact bodyPost_ret (v := .agg (ptL (spreadL k m)).toArray) (results_cell_row rfl _ _ w.heap.size 86 _ (0, 0) _ rfl (setRow_heap _ _ _ _ _ _ HSX.out) Tryz.underlying86 rfl (ptL_info _)) rfl ⟨rfl, hP.out.1.trans (below_setRow _ _ _ (Nat.le_refl _))⟩
end Go.Proofs.YtgehpaojbnpbcaaGreatDoor
namespace Go.Proofs.YtgehpaojbnpbcaaGreatDoor
open Go Go.RowKit Go.Maps
theorem maxT_snoc (l : List Nat) (x : Nat) : maxT (l ++ [x]) = max (maxT l) x := by
  unfold maxT
  rw [List.foldl_append]
  rfl
theorem maxT_lt {l : List Nat} {n : Nat} (hn : 0 < n) (h : ∀ x ∈ l, x < n) : maxT l < n := by
  have e : ∀ (l : List Nat) (z : Nat), z < n → (∀ x ∈ l, x < n) → l.foldl max z < n := by
    intro l
    induction l with
    | nil => intro z hz _; exact hz
    | cons a r ih =>
      intro z hz hl
      rw [List.foldl_cons]
      have := hl a List.mem_cons_self
      exact ih _ (by omega) fun y hy => hl y (List.mem_cons_of_mem _ hy)
  exact e l 0 hn h
theorem maxT_take {l : List Nat} {k x : Nat} (h : l[k]? = some x) : maxT (l.take (k + 1)) = max (maxT (l.take k)) x := by
  rw [List.take_add_one, h]
  exact maxT_snoc _ _
set_option maxRecDepth 100000 in
set_option maxHeartbeats 4000000 in
theorem maxB_any (l : List Nat) (h0 : 0 < l.length) (h7 : l.length ≤ 7) (hlt : ∀ x ∈ l, x < 7) (b cap : Nat) (w : World) (hc : ∀ (j x : Nat), l[j]? = some x → w.cell? ⟨b, j, none⟩ = some (.int .u8 (97 + (x : Int)))) :
    Calls Tryz.prog 102 #[.slice (some ⟨b, 0, none⟩) l.length cap] w fun e w' => e = .returned (.int .u8 (97 + (maxT l : Int))) ∧ w' = w := by
  obtain ⟨x0, hx0⟩ : ∃ x, l[0]? = some x := ⟨_, List.getElem?_eq_getElem h0⟩
  have c0 := hc 0 x0 hx0
  have HM0 : Hid (maxT (l.take 1) = x0) := Lib.hid (by rw [maxT_take hx0, List.take_zero]; show max 0 x0 = x0; omega)
  have HC := Lib.hid hc
  have HLT := Lib.hid hlt
  have n1 : ¬ (l.length : Int) < 1 := by omega
  have n0 : 0 < l.length := h0
  clear hc hx0 hlt
  go_enter Tryz.func102, Tryz.ntmps102
  go_wp2
  go_loopw [3, 4] (fun v i wr => ∃ k m : Nat, v = .int .u8 (97 + (m : Int)) ∧ i = .int .i64 k ∧ 1 ≤ k ∧ k ≤ l.length ∧ m < 7 ∧ Hid (maxT (l.take k) = m) ∧ wr = w) (fun _ i _ => l.length - (intOf i).toNat)
  case atStart => exact ⟨1, x0, rfl, rfl, Nat.le_refl _, h0, by have := maxT_lt (n := 7) (by omega) (fun x hx => HLT.out x (List.mem_of_mem_take hx)) (l := l.take 1); rw [HM0.out] at this; exact this, HM0, rfl⟩
  case round =>
    obtain ⟨k, m, rfl, rfl, hk1, hk, hm7, hM, rfl⟩ := hrel
    by_cases hlt2 : k < l.length
    · obtain ⟨x, hx⟩ : ∃ x, l[k]? = some x := ⟨_, List.getElem?_eq_getElem hlt2⟩
      have c1 := HC.out k x hx
      have hx7 := HLT.out x (List.mem_of_getElem? hx)
      have HMX : Hid (maxT (l.take (k + 1)) = max m x) := Lib.hid (by rw [maxT_take hx, hM.out])
      clear hx
      rcases Nat.lt_trichotomy m x with hlt3 | he | hgt
      · have f1 : (97 + (m : Int)) < (97 + (x : Int)) := by omega
        have f2 : ¬ (97 + (x : Int)) < (97 + (m : Int)) := by omega
        have HMX2 : Hid (maxT (l.take (k + 1)) = x) := Lib.hid (by rw [HMX.out]; omega)
        clear hlt3
        go_wp2
        go_roundw
        case rel => exact ⟨k + 1, x, rfl, by go_num, by omega, by omega, hx7, HMX2, by first | rfl | trivial⟩
        case measure => simp only [intOf]; omega
      · subst he
        have HMX2 : Hid (maxT (l.take (k + 1)) = m) := Lib.hid (by rw [HMX.out]; omega)
        go_wp2
        go_roundw
        case rel => exact ⟨k + 1, m, rfl, by go_num, by omega, by omega, hm7, HMX2, by first | rfl | trivial⟩
        case measure => simp only [intOf]; omega
      · have f1 : (97 + (x : Int)) < (97 + (m : Int)) := by omega
        have f2 : ¬ (97 + (m : Int)) < (97 + (x : Int)) := by omega
        have HMX2 : Hid (maxT (l.take (k + 1)) = m) := Lib.hid (by rw [HMX.out]; omega)
        clear hgt
        go_wp2
        go_roundw
        case rel => exact ⟨k + 1, m, rfl, by go_num, by omega, by omega, hm7, HMX2, by first | rfl | trivial⟩
        case measure => simp only [intOf]; omega
    · obtain rfl : k = l.length := by omega
      have HE : Hid (maxT l = m) := Lib.hid (by have := hM.out; rwa [List.take_length] at this)
      go_wp2
      go_ret
      exact ⟨by rw [HE.out]; rfl, rfl⟩
theorem ptL_put {l : List Nat} {i : Nat} (h : i < l.length) (h7 : l.length ≤ 7) (x : Nat) : (ptL l).set i (.int .u8 (97 + (x : Int))) = ptL (l.set i x) := by
  refine List.ext_getElem? fun j => ?_
  rw [List.getElem?_set, ptL_length]
  by_cases hj : j < 7
  · by_cases he : i = j
    · subst he
      rw [if_pos rfl, if_pos (by omega), ptL_get (k := x) hj (by rw [List.getElem?_set, if_pos rfl, if_pos h])]
      rw [show ((97 + x : Nat) : Int) = 97 + (x : Int) by omega]
    · rw [if_neg he]
      unfold ptL
      rw [List.getElem?_map, List.getElem?_map, List.getElem?_range hj]
      simp only [Option.map_some]
      rw [List.getElem?_set, if_neg he]
  · have h1 : (ptL (l.set i x))[j]? = none := List.getElem?_eq_none (by rw [ptL_length]; omega)
    have h2 : (ptL l)[j]? = none := List.getElem?_eq_none (by rw [ptL_length]; omega)
    rw [h1, h2, if_neg (by omega)]
theorem ptL_at {l : List Nat} {i k : Nat} (hi : i < 7) (h : l[i]? = some k) : (ptL l)[i]? = some (.int .u8 (97 + (k : Int))) := by
  rw [ptL_get hi h, show ((97 + k : Nat) : Int) = 97 + (k : Int) by omega]
theorem loopN_stop {m i : Nat} {l : List Nat} {x : Nat} (hx : l[i + 1]? = some x) (h : x < min (maxT (l.take (i + 1)) + 1) (m - 1)) : loopN m (i + 1) l = l.set (i + 1) (x + 1) := by
  unfold loopN
  rw [show l.getD (i + 1) 0 = x from by rw [List.getD_eq_getElem?_getD, hx]; rfl, if_pos h]
theorem loopN_go {m i : Nat} {l : List Nat} {x : Nat} (hx : l[i + 1]? = some x) (h : ¬ x < min (maxT (l.take (i + 1)) + 1) (m - 1)) : loopN m (i + 1) l = loopN m i (l.set (i + 1) 0) := by
  rw [loopN, show l.getD (i + 1) 0 = x from by rw [List.getD_eq_getElem?_getD, hx]; rfl, if_neg h]
set_option maxRecDepth 100000 in
set_option maxHeartbeats 8000000 in
theorem next_any (m : Nat) (hm1 : 1 ≤ m) (hm : m ≤ 7) (l : List Nat) (hl7 : l.length ≤ 7) (hlt : ∀ x ∈ l, x < 7) (w : World) :
    Calls Tryz.prog 71 #[.agg (ptL l).toArray, .int .i64 (l.length : Int), .int .i64 (m : Int)] w fun e w' => e = .returned (.agg (ptL (nextL m l)).toArray) ∧ Below w.heap.size w w' := by
  have hb0 := ((Below.refl w.heap.size w).alloc (Nat.le_refl _) (.cells (ptL l).toArray 86)).alloc (by simp) (.cells #[.int .u8 0, .int .u8 0, .int .u8 0, .int .u8 0, .int .u8 0, .int .u8 0, .int .u8 0] 86)
  have R1 := (Row.new w (ptL l) 86).alloc (.cells #[.int .u8 0, .int .u8 0, .int .u8 0, .int .u8 0, .int .u8 0, .int .u8 0, .int .u8 0] 86)
  have R2 := Row.new (w.alloc (.cells (ptL l).toArray 86)) [.int .u8 0, .int .u8 0, .int .u8 0, .int .u8 0, .int .u8 0, .int .u8 0, .int .u8 0] 86
  rw [World.size_alloc] at R2
  have H0 := Lib.hid (And.intro hb0 (And.intro R1 R2))
  have hw1 : IntKind.i64.wrap ((m : Int) - 1) = ((m - 1 : Nat) : Int) := by rw [wrap_small _ (by omega) (by omega)]; omega
  have HAT := Lib.hid lettersL_at
  have HLT := Lib.hid hlt
  obtain ⟨N, hN⟩ : ∃ N, nextL m l = N := ⟨_, rfl⟩
  rw [hN]
  have HN : Hid (loopN m (l.length - 1) l = N) := Lib.hid hN
  obtain ⟨c, hc⟩ : ∃ c, l.length = c := ⟨_, rfl⟩
  have HC := Lib.hid hc
  rw [hc] at hl7 HN ⊢
  have hwc : IntKind.i64.wrap ((c : Int) - 1) = (c : Int) - 1 := IntWalk.i64_in _ ⟨by omega, by omega⟩
  generalize hpt : ptL l = PL at *
  have HPL := Lib.hid hpt
  clear hb0 R1 R2 hlt hN hc hpt
  go_enter Tryz.func71, Tryz.ntmps71
  have hsz : (⟨#[97, 98, 99, 100, 101, 102, 103, 104, 105, 106, 107, 108, 109, 110, 111, 112, 113, 114, 115, 116, 117, 118, 119, 120, 121, 122]⟩ : ByteArray).size = 26 := by decide +kernel
  generalize (⟨#[97, 98, 99, 100, 101, 102, 103, 104, 105, 106, 107, 108, 109, 110, 111, 112, 113, 114, 115, 116, 117, 118, 119, 120, 121, 122]⟩ : ByteArray) = L at *
  have HSZ := Lib.hid hsz
  clear hsz
  go_wp2
  go_loopw [7] (fun v wr => ∃ (z : Int) (i : Nat) (q : List Nat), v = .int .i64 z ∧ (z = (i : Int) ∨ (z = -1 ∧ i = 0)) ∧ q.length = c ∧ (1 ≤ i → i < c) ∧ Hid (∀ x ∈ q, x < 7) ∧ Hid (loopN m i q = N) ∧ Hid (Below w.heap.size w wr ∧ Row wr w.heap.size 86 (ptL q) ∧ Row wr (w.heap.size + 1) 86 [.int .u8 0, .int .u8 0, .int .u8 0, .int .u8 0, .int .u8 0, .int .u8 0, .int .u8 0])) (fun v _ => (intOf v).toNat)
  case atStart =>
    have h1 : (c : Int) - 1 = ((c - 1 : Nat) : Int) ∨ ((c : Int) - 1 = -1 ∧ c - 1 = 0) := by omega
    have h2 : 1 ≤ c - 1 → c - 1 < c := fun h => by omega
    exact ⟨(c : Int) - 1, c - 1, l, rfl, h1, HC.out, h2, HLT, HN, by rw [HPL.out]; exact H0⟩
  case round =>
    obtain ⟨z, i, q, rfl, hz, hq, hic, HQ, HLP, HW⟩ := hrel
    by_cases hpos : 0 < z
    · obtain ⟨j, rfl⟩ : ∃ j, i = j + 1 := ⟨i - 1, by omega⟩
      obtain rfl : z = ((j + 1 : Nat) : Int) := by omega
      have hjc : j + 1 < c := hic (by omega)
      obtain ⟨x, hx⟩ : ∃ x, q[j + 1]? = some x := ⟨_, List.getElem?_eq_getElem (by omega)⟩
      have hx7 := HQ.out x (List.mem_of_getElem? hx)
      have htl : (q.take (j + 1)).length = j + 1 := by rw [List.length_take]; omega
      have HXX := Lib.hid hx
      obtain ⟨M, hM⟩ : ∃ M, maxT (q.take (j + 1)) = M := ⟨_, rfl⟩
      have hM7 : M < 7 := by rw [← hM]; exact maxT_lt (by omega) fun x hx => HQ.out x (List.mem_of_mem_take hx)
      obtain ⟨H, hH⟩ : ∃ H, min (M + 1) (m - 1) = H := ⟨_, rfl⟩
      have HMH : Hid (min (maxT (q.take (j + 1)) + 1) (m - 1) = H) := Lib.hid (by rw [hM, hH])
      have C1 := Lib.hid (fun W (hW : Row W w.heap.size 86 (ptL q)) => maxB_any (q.take (j + 1)) (by omega) (by omega) (fun x hx => HQ.out x (List.mem_of_mem_take hx)) w.heap.size 7 W (fun a y hy => hW.cell (ptL_at (by have := (List.getElem?_eq_some_iff.1 hy).1; omega) (by rw [List.getElem?_take_of_lt (by have := (List.getElem?_eq_some_iff.1 hy).1; omega)] at hy; exact hy))))
      rw [htl, hM] at C1
      have hml : m - 1 < L.size := by have := HSZ.out; omega
      have hlm := HAT.out (m - 1) hml
      have hlm2 : ((L[m - 1]'hml).toNat : Int) = 97 + ((m - 1 : Nat) : Int) := by rw [hlm]; omega
      have hm26 : ((m - 1 : Nat) : Int) < (L.size : Int) := by omega
      have hj7 : (j : Int) + 1 ≤ 7 := by omega
      have hj0 : (0 : Int) ≤ (j : Int) + 1 := by omega
      have htj : ((j : Int) + 1).toNat = j + 1 := by omega
      have HMM := Lib.hid hM
      have hwM : IntKind.u8.wrap (97 + (M : Int) + 1) = 98 + (M : Int) := by rw [show (97 + (M : Int) + 1) = 98 + (M : Int) by omega]; rw [IntKind.wrap_u8]; omega
      clear hM hlm htl hx
      go_wp2
      refine wp_region_kept (S := fun w' => Row w' w.heap.size 86 (ptL q)) 8 (by kernel_rfl) ?_
      have hS0 : Row wr.drew w.heap.size 86 (ptL q) := HW.out.2.1.drew
      refine KeptAny.tk (v := ?_) 0 hS0 (fun w' hw' => ?_) ?_
      rotate_left
      · (clear hw'; go_simp; try with_reducible rfl)
      refine KeptAny.tk (v := .slice (some ⟨w.heap.size, 0, none⟩) (j + 1) 7) 1 hS0 (fun w' hw' => ?_) ?_
      · (clear hw'; go_simp; try with_reducible rfl)
      refine KeptAny.tk (v := ?_) 4 hS0 (fun w' hw' => ?_) ?_
      rotate_left
      · (clear hw'; go_simp; try with_reducible rfl)
      refine KeptAny.tk (v := .int .i64 ((m - 1 : Nat) : Int)) 5 hS0 (fun w' hw' => ?_) ?_
      · (clear hw'; go_simp; try with_reducible rfl)
      refine KeptAny.tk (v := .int .u8 (97 + ((m - 1 : Nat) : Int))) 6 hS0 (fun w' hw' => ?_) ?_
      · (clear hw'; go_simp; try with_reducible rfl)
      clear hS0
      refine KeptAny.one (i := 2) (by kernel_rfl) rfl (by kernel_rfl) (fun K hK => ?_)
      go_simp
      refine ⟨trivial, ?_⟩
      refine ((callsIn_wide (n := 5)).2 (C1.out wr.drew HW.out.2.1.drew)).mono ?_
      rintro e wa ⟨rfl, rfl⟩
      have hS0 : Row wr.drew w.heap.size 86 (ptL q) := HW.out.2.1.drew
      refine hK.out _ _ hS0 (fun _ => ?_)
      clear hK
      refine KeptAny.tk (v := .int .u8 (98 + (M : Int))) 3 hS0 (fun w' hw' => ?_) ?_
      · (clear hw'; go_simp; try with_reducible rfl)
      refine KeptAny.tk (v := .int .u8 (97 + (H : Int))) 7 hS0 (fun w' hw' => ?_) ?_
      · clear hw'
        have HH := Lib.hid hH
        clear hH HMM HMH
        rcases Nat.lt_trichotomy (M + 1) (m - 1) with h | h | h
        · have e : 97 + (H : Int) = 98 + (M : Int) := by have := HH.out; omega
          have f1 : 98 + (M : Int) < 97 + ((m - 1 : Nat) : Int) := by omega
          have f2 : ¬ 97 + ((m - 1 : Nat) : Int) < 98 + (M : Int) := by omega
          rw [e]
          clear h e
          go_simp
          try with_reducible rfl
        · have e : 97 + (H : Int) = 98 + (M : Int) := by have := HH.out; omega
          have f1 : 97 + ((m - 1 : Nat) : Int) = 98 + (M : Int) := by omega
          rw [e]
          clear h e
          go_simp
          try with_reducible rfl
        · have e : 97 + (H : Int) = 97 + ((m - 1 : Nat) : Int) := by have := HH.out; omega
          have f1 : 97 + ((m - 1 : Nat) : Int) < 98 + (M : Int) := by omega
          have f2 : ¬ 98 + (M : Int) < 97 + ((m - 1 : Nat) : Int) := by omega
          rw [e]
          clear h e
          go_simp
          try with_reducible rfl
      refine KeptAny.last (by kernel_rfl) rfl (by kernel_rfl) (fun K hK => ?_)
      go_simp
      refine hK.out _ _ ?_
      clear hK
      refine KeptAny.done (by kernel_rfl) ?_ _
      clear hS0
      have t0 := HW.out.2.1.drew.cell (ptL_at (by omega) HXX.out)
      have tf := HW.out.2.1.drew.frozen (j + 1)
      have HWD := Lib.hid (And.intro HW.out.1.drew (And.intro HW.out.2.1.drew HW.out.2.2.drew))
      generalize wr.drew = wd at *
      have hj7' : (j : Int) + 1 < 7 := by omega
      by_cases hxH : x < H
      · have f1 : 97 + (x : Int) < 97 + (H : Int) := by omega
        have HST := Lib.hid (loopN_stop HXX.out (by rw [HMH.out]; exact hxH))
        have hwx : IntKind.u8.wrap (97 + (x : Int) + 1) = 97 + ((x + 1 : Nat) : Int) := by rw [IntKind.wrap_u8]; omega
        have HE : Hid (Below w.heap.size w (wd.setCell ⟨w.heap.size, j + 1, none⟩ (.int .u8 (97 + ((x + 1 : Nat) : Int)))) ∧ Row (wd.setCell ⟨w.heap.size, j + 1, none⟩ (.int .u8 (97 + ((x + 1 : Nat) : Int)))) w.heap.size 86 (ptL N) ∧ Row (wd.setCell ⟨w.heap.size, j + 1, none⟩ (.int .u8 (97 + ((x + 1 : Nat) : Int)))) (w.heap.size + 1) 86 [.int .u8 0, .int .u8 0, .int .u8 0, .int .u8 0, .int .u8 0, .int .u8 0, .int .u8 0]) := Lib.hid (by
          refine ⟨HWD.out.1.setCell (p := ⟨w.heap.size, j + 1, none⟩) (Nat.le_refl _) _, ?_, HWD.out.2.2.other (a := ⟨w.heap.size, j + 1, none⟩) (by show w.heap.size ≠ w.heap.size + 1; omega) _⟩
          rw [← HLP.out, HST.out, ← ptL_put (by omega) (by omega)]
          exact HWD.out.2.1.set (j + 1) _)
        have hs1 := HE.out.2.1
        have hs2 := HE.out.2.2
        unfold Row at hs1 hs2
        have HSX := Lib.hid hs2
        clear hxH
        go_wp2_with (first
          | (refine wpList_load_row rfl 86 _ rfl w.heap.size rfl 86 _ (0, 0) _ hs1 Tryz.underlying86 rfl (ptL_info _) ?_)
          | (refine wpList_store_row rfl 86 _ _ rfl (w.heap.size + 1) (ptL N).toArray rfl rfl 86 _ hs2 (ptL_info _) (by simp [ptL_length]) (ptL_one _) ?_))
        exact bodyPost_ret (v := .agg (ptL N).toArray) (results_cell_row rfl _ _ (w.heap.size + 1) 86 _ (0, 0) _ rfl (setRow_heap _ _ _ _ _ _ HSX.out) Tryz.underlying86 rfl (ptL_info _)) rfl ⟨rfl, HE.out.1.trans (below_setRow _ _ _ (Nat.le_succ _))⟩
      · have f1 : ¬ 97 + (x : Int) < 97 + (H : Int) := by omega
        have HST := Lib.hid (loopN_go HXX.out (by rw [HMH.out]; exact hxH))
        have HE : Hid (Below w.heap.size w (wd.setCell ⟨w.heap.size, j + 1, none⟩ (.int .u8 97)) ∧ Row (wd.setCell ⟨w.heap.size, j + 1, none⟩ (.int .u8 97)) w.heap.size 86 (ptL (q.set (j + 1) 0)) ∧ Row (wd.setCell ⟨w.heap.size, j + 1, none⟩ (.int .u8 97)) (w.heap.size + 1) 86 [.int .u8 0, .int .u8 0, .int .u8 0, .int .u8 0, .int .u8 0, .int .u8 0, .int .u8 0]) := Lib.hid (by
          refine ⟨HWD.out.1.setCell (p := ⟨w.heap.size, j + 1, none⟩) (Nat.le_refl _) _, ?_, HWD.out.2.2.other (a := ⟨w.heap.size, j + 1, none⟩) (by show w.heap.size ≠ w.heap.size + 1; omega) _⟩
          rw [← ptL_put (by omega) (by omega)]
          exact HWD.out.2.1.set (j + 1) _)
        have hwj : IntKind.i64.wrap ((j : Int) + 1 - 1) = (j : Int) := by rw [wrap_small _ (by omega) (by omega)]; omega
        have HQ2 : Hid (∀ y ∈ q.set (j + 1) 0, y < 7) := Lib.hid (fun y hy => by
          rcases List.mem_or_eq_of_mem_set hy with h | h
          · exact HQ.out y h
          · omega)
        clear hxH
        go_wp2
        go_roundw
        case rel => exact ⟨(j : Int), j, q.set (j + 1) 0, by go_num, .inl rfl, by rw [List.length_set]; exact hq, fun _ => by omega, HQ2, Lib.hid (by rw [← HST.out]; exact HLP.out), HE⟩
        case measure => simp only [intOf]; omega
    · have HFIN : Hid (q = N) := Lib.hid (by
        have : i = 0 := by omega
        subst this
        exact HLP.out)
      have hs1 := HW.out.2.1
      have hs2 := HW.out.2.2
      rw [HFIN.out] at hs1
      unfold Row at hs1 hs2
      have HSX := Lib.hid hs2
      go_wp2_with (first
        | (refine wpList_load_row rfl 86 _ rfl w.heap.size rfl 86 _ (0, 0) _ hs1 Tryz.underlying86 rfl (ptL_info _) ?_)
        | (refine wpList_store_row rfl 86 _ _ rfl (w.heap.size + 1) (ptL N).toArray rfl rfl 86 _ hs2 (ptL_info _) (by simp [ptL_length]) (ptL_one _) ?_))
      exact bodyPost_ret (v := .agg (ptL N).toArray) (results_cell_row rfl _ _ (w.heap.size + 1) 86 _ (0, 0) _ rfl (setRow_heap _ _ _ _ _ _ HSX.out) Tryz.underlying86 rfl (ptL_info _)) rfl ⟨rfl, HW.out.1.trans (below_setRow _ _ _ (Nat.le_succ _))⟩
end Go.Proofs.YtgehpaojbnpbcaaGreatDoor
namespace Go.Proofs.YtgehpaojbnpbcaaGreatDoor
open Go Go.RowKit
theorem sizeByte (W : World) : (sizeOf 5).run Tryz.prog W = .ok 1 W := by kernel_rfl
theorem eqByte (d : Nat) (a b : Int) (W : World) : (Op.equalIn (d + 1) 5 (.int .u8 a) (.int .u8 b)).run Tryz.prog W = .ok (a == b) W := by
  rw [Op.equalIn]
  simp only [Sem.run_bind, run_underlying Tryz.underlying5, Result.andThen_ok]
  simp
theorem part7_0 (c : Nat → Int) (W : World) : (part 5 #[.int .u8 (c 0), .int .u8 (c 1), .int .u8 (c 2), .int .u8 (c 3), .int .u8 (c 4), .int .u8 (c 5), .int .u8 (c 6)] 0).run Tryz.prog W = .ok (.int .u8 (c 0)) W := by kernel_rfl
theorem part7_1 (c : Nat → Int) (W : World) : (part 5 #[.int .u8 (c 0), .int .u8 (c 1), .int .u8 (c 2), .int .u8 (c 3), .int .u8 (c 4), .int .u8 (c 5), .int .u8 (c 6)] 1).run Tryz.prog W = .ok (.int .u8 (c 1)) W := by kernel_rfl
theorem part7_2 (c : Nat → Int) (W : World) : (part 5 #[.int .u8 (c 0), .int .u8 (c 1), .int .u8 (c 2), .int .u8 (c 3), .int .u8 (c 4), .int .u8 (c 5), .int .u8 (c 6)] 2).run Tryz.prog W = .ok (.int .u8 (c 2)) W := by kernel_rfl
theorem part7_3 (c : Nat → Int) (W : World) : (part 5 #[.int .u8 (c 0), .int .u8 (c 1), .int .u8 (c 2), .int .u8 (c 3), .int .u8 (c 4), .int .u8 (c 5), .int .u8 (c 6)] 3).run Tryz.prog W = .ok (.int .u8 (c 3)) W := by kernel_rfl
theorem part7_4 (c : Nat → Int) (W : World) : (part 5 #[.int .u8 (c 0), .int .u8 (c 1), .int .u8 (c 2), .int .u8 (c 3), .int .u8 (c 4), .int .u8 (c 5), .int .u8 (c 6)] 4).run Tryz.prog W = .ok (.int .u8 (c 4)) W := by kernel_rfl
theorem part7_5 (c : Nat → Int) (W : World) : (part 5 #[.int .u8 (c 0), .int .u8 (c 1), .int .u8 (c 2), .int .u8 (c 3), .int .u8 (c 4), .int .u8 (c 5), .int .u8 (c 6)] 5).run Tryz.prog W = .ok (.int .u8 (c 5)) W := by kernel_rfl
theorem part7_6 (c : Nat → Int) (W : World) : (part 5 #[.int .u8 (c 0), .int .u8 (c 1), .int .u8 (c 2), .int .u8 (c 3), .int .u8 (c 4), .int .u8 (c 5), .int .u8 (c 6)] 6).run Tryz.prog W = .ok (.int .u8 (c 6)) W := by kernel_rfl
set_option maxHeartbeats 2000000 in
theorem eq7_run (d : Nat) (c e : Nat → Int) (W : World) : (Op.equalIn (d + 2) 86 (.agg #[.int .u8 (c 0), .int .u8 (c 1), .int .u8 (c 2), .int .u8 (c 3), .int .u8 (c 4), .int .u8 (c 5), .int .u8 (c 6)]) (.agg #[.int .u8 (e 0), .int .u8 (e 1), .int .u8 (e 2), .int .u8 (e 3), .int .u8 (e 4), .int .u8 (e 5), .int .u8 (e 6)])).run Tryz.prog W =
    .ok (c 0 == e 0 && (c 1 == e 1 && (c 2 == e 2 && (c 3 == e 3 && (c 4 == e 4 && (c 5 == e 5 && c 6 == e 6)))))) W := by
  have p0 := part7_0 c W
  have p1 := part7_1 c W
  have p2 := part7_2 c W
  have p3 := part7_3 c W
  have p4 := part7_4 c W
  have p5 := part7_5 c W
  have p6 := part7_6 c W
  have q0 := part7_0 e W
  have q1 := part7_1 e W
  have q2 := part7_2 e W
  have q3 := part7_3 e W
  have q4 := part7_4 e W
  have q5 := part7_5 e W
  have q6 := part7_6 e W
  rw [show d + 2 = (d + 1) + 1 from rfl, Op.equalIn]
  simp only [Sem.run_bind, run_underlying Tryz.underlying86, Result.andThen_ok, sizeByte]
  simp only [Std.Legacy.Range.forIn_eq_forIn_range', Std.Legacy.Range.size, Nat.sub_zero, Nat.add_sub_cancel, Nat.div_one, List.range'_succ, List.range'_zero, List.forIn_cons, List.forIn_nil]
  have r0 := eqByte d (c 0) (e 0) W
  have r1 := eqByte d (c 1) (e 1) W
  have r2 := eqByte d (c 2) (e 2) W
  have r3 := eqByte d (c 3) (e 3) W
  have r4 := eqByte d (c 4) (e 4) W
  have r5 := eqByte d (c 5) (e 5) W
  have r6 := eqByte d (c 6) (e 6) W
  generalize (c 0 == e 0) = b0 at *
  generalize (c 1 == e 1) = b1 at *
  generalize (c 2 == e 2) = b2 at *
  generalize (c 3 == e 3) = b3 at *
  generalize (c 4 == e 4) = b4 at *
  generalize (c 5 == e 5) = b5 at *
  generalize (c 6 == e 6) = b6 at *
  simp only [Sem.run_bind, Nat.reduceMul, Nat.reduceAdd, p0, q0, Result.andThen_ok, r0]
  cases b0
  · simp
  cases b1
  · simp [p1, q1, r1]
  cases b2
  · simp [p1, p2, q1, q2, r1, r2]
  cases b3
  · simp [p1, p2, p3, q1, q2, q3, r1, r2, r3]
  cases b4
  · simp [p1, p2, p3, p4, q1, q2, q3, q4, r1, r2, r3, r4]
  cases b5
  · simp [p1, p2, p3, p4, p5, q1, q2, q3, q4, q5, r1, r2, r3, r4, r5]
  cases b6
  · simp [p1, p2, p3, p4, p5, p6, q1, q2, q3, q4, q5, q6, r1, r2, r3, r4, r5, r6]
  simp [p1, p2, p3, p4, p5, p6, q1, q2, q3, q4, q5, q6, r1, r2, r3, r4, r5, r6]
def lt7 (l : List Nat) (i : Nat) : Int := match l[i]? with | some k => ((97 + k : Nat) : Int) | none => 0
theorem ptL_lt7 (l : List Nat) : (ptL l).toArray = #[.int .u8 (lt7 l 0), .int .u8 (lt7 l 1), .int .u8 (lt7 l 2), .int .u8 (lt7 l 3), .int .u8 (lt7 l 4), .int .u8 (lt7 l 5), .int .u8 (lt7 l 6)] := rfl
theorem lt7_inj {l l' : List Nat} (hl : l.length = l'.length) (h7 : l.length ≤ 7) (h : ∀ i, i < 7 → lt7 l i = lt7 l' i) : l = l' := by
  refine List.ext_getElem hl fun i h1 h2 => ?_
  have := h i (by omega)
  unfold lt7 at this
  rw [List.getElem?_eq_getElem h1, List.getElem?_eq_getElem h2] at this
  dsimp at this
  omega
theorem eqPt_run (d : Nat) {l l' : List Nat} (hl : l.length = l'.length) (h7 : l.length ≤ 7) (W : World) : (Op.equalIn (d + 2) 86 (.agg (ptL l).toArray) (.agg (ptL l').toArray)).run Tryz.prog W = .ok (l == l') W := by
  rw [ptL_lt7, ptL_lt7, eq7_run]
  congr 1
  rw [Bool.eq_iff_iff, beq_iff_eq]
  simp only [Bool.and_eq_true, beq_iff_eq]
  constructor
  · intro h
    refine lt7_inj hl h7 fun i hi => ?_
    have hc : i = 0 ∨ i = 1 ∨ i = 2 ∨ i = 3 ∨ i = 4 ∨ i = 5 ∨ i = 6 := by omega
    rcases hc with rfl | rfl | rfl | rfl | rfl | rfl | rfl <;> simp [h]
  · rintro rfl
    simp
end Go.Proofs.YtgehpaojbnpbcaaGreatDoor
namespace Go.Proofs.YtgehpaojbnpbcaaGreatDoor
open Go Go.RowKit
theorem roundIn_deepB {F : Fence} (hd : F.depth = none) {m m' : Nat} {P : Program} {l : Nat} {f : FuncId} {tmps : Array Value} {assign body : Code} {w : World} {R : Ending → World → Prop} (h : RoundIn F m P l f tmps assign body w R) : RoundIn F m' P l f tmps assign body w R :=
  ⟨h.1, fun c cs _ => h.2 c cs (fun d h => by rw [hd] at h; cases h)⟩
/-- All blocks from B on stay as they are. -/
structure KeepsAll (B : Nat) (W W' : World) : Prop where
  size : W.heap.size ≤ W'.heap.size
  same : ∀ (k : Nat) (o : Obj), B ≤ k → W.heap[k]? = some o → W'.heap[k]? = some o
theorem KeepsAll.trans {B : Nat} {X Y Z : World} (h : KeepsAll B X Y) (k : KeepsAll B Y Z) : KeepsAll B X Z := ⟨Nat.le_trans h.size k.size, fun i o hB hi => k.same i o hB (h.same i o hB hi)⟩
theorem KeepsAll.of_below {B : Nat} {X Y : World} (h : Below X.heap.size X Y) : KeepsAll B X Y := ⟨h.size, fun k o _ hk => by rw [h.block k (Array.getElem?_eq_some_iff.1 hk).1]; exact hk⟩
theorem KeepsAll.mono {B B' : Nat} {X Y : World} (h : KeepsAll B X Y) (hB : B ≤ B') : KeepsAll B' X Y := ⟨h.size, fun k o hk => h.same k o (by omega)⟩
theorem KeepsAll.row {B : Nat} {X Y : World} (h : KeepsAll B X Y) {b : Nat} {t : TypeId} {cs : List Value} (hb : B ≤ b) (hr : Row X b t cs) : Row Y b t cs := h.same b _ hb hr
/-- What stays whatever happens from block B on. -/
def Stab {β : Type} (B : Nat) (J : β → World → Prop) : Prop := ∀ s A C, J s A → Below B A C → J s C
theorem below_putObj {B : Nat} (W : World) {l : Nat} (o : Obj) (h : B ≤ l) : Below B W (W.putObj l o) :=
  ⟨rfl, rfl, rfl, Nat.le_of_eq (by simp), fun k hk => World.putObj_heap_other (by omega)⟩
/-- What an iterator may ask of its rounds and what it does: it may lay blocks and turn all that was laid since its call began. -/
def SeqB {α : Type} (n : Nat) (P : Program) (g : Nat) (lb : Array Value) (encs : α → Array Value) (S Sp : List α → Prop) (N : Nat) (Nd : World → Prop) (w0 : World) : Prop :=
  ∀ (l : Nat) (J Jx : List α → World → Prop) (W : World), l < W.heap.size → Below w0.heap.size w0 W → Stab W.heap.size J → Stab W.heap.size Jx →
    (∀ m pre x W1, J pre W1 → pre.length < N → YieldAt Fence.wide m P l (encs x) W1 fun e W' => KeepsAll W.heap.size W1 W' ∧
      ((e = .returned (.bool true) ∧ J (pre ++ [x]) W') ∨ (e = .returned (.bool false) ∧ Jx (pre ++ [x]) W'))) →
    (∀ pre W1, J pre W1 → Nd W1) → J [] W →
    CallsIn Fence.wide n P g (#[.func (.yield l) #[] #[]] ++ lb) W fun e W' => (∃ v, e = .returned v) ∧ ((∃ xs, S xs ∧ J xs W') ∨ (∃ pre, Sp pre ∧ Jx pre W'))
def postB {α : Type} (B : Nat) (I : List α → World → Prop) (Ix : Code → List α → World → Prop) (xs : List α) (W : World) : Exit → Act → World → Prop
  | .normal, _, W' => KeepsAll B W W' ∧ I xs W'
  | .ret, _, W' => KeepsAll B W W' ∧ Ix .ret xs W'
  | .exit id, _, W' => KeepsAll B W W' ∧ Ix (.exit id) xs W'
  | .goto t, _, W' => KeepsAll B W W' ∧ Ix (.goto t) xs W'
  | .panic _, _, _ => False
  | .outgrown, _, _ => False
variable {P : Program} {n : Nat}
theorem wpIn_rangeFunc_b {α : Type} {g : Operand} {ps : Array Tmp} {assign body : Code} {Q : Exit → Act → World → Prop} {a : Act} {w : World}
    {gf : Nat} {lb : Array Value} (hg : a.eval g = .func (.func gf) #[] lb) (eg : ∀ args w, (callFunc gf args).run P w = .ok (.enter gf args) w)
    {encs : α → Array Value} {S Sp : List α → Prop} {N : Nat} {Nd : World → Prop} {w0 : World} (hseq : SeqB (n - 1) P gf lb encs S Sp N Nd w0)
    (hb0 : Below w0.heap.size w0 w) (hps : ∀ x, (encs x).size = ps.size)
    (I : List α → World → Prop) (Ix : Code → List α → World → Prop) (hI : Stab w.heap.size I) (hIx : ∀ c, Stab w.heap.size (Ix c)) (hNd : ∀ pre W, I pre W → Nd W) (h0 : I [] w) (Ax : α → Act → World → Prop) (hAx : ∀ x a', OwnFrom w.heap.size (fun (_ : Unit) W => Ax x a' W))
    (hassign : ∀ (l : Nat) (pre : List α) (x : α) (W : World) (K : Act → World → Prop), I pre W → (∀ a' W', KeepsAll w.heap.size W W' → I pre W' → Ax x a' W' → K a' W') →
      assign.wpIn (Fence.wide.inRound l) (n - 1 - 1) P (Exit.then K (fun _ _ _ => False)) { tmps := (ps.zip (encs x)).foldl (fun t (p, v) => t.setIfInBounds p v) a.tmps, defers := [] } W)
    (hbody : ∀ (l : Nat) (pre : List α) (x : α) (a' : Act) (W : World), w.heap.size ≤ l → (∃ r, W.heap[l]? = some (.loop r)) → I pre W → Ax x a' W → pre.length < N → body.wpIn (Fence.wide.inRound l) (n - 1 - 1) P (postB w.heap.size I Ix (pre ++ [x]) W) a' W)
    (hdone : ∀ (D : Nat) (xs : List α) (W : World), w.heap.size ≤ D → S xs → I xs W → W.heap[D]? = some (.deferred (some [])) → Q .normal { a with defers := { target := .collected D, args := #[] } :: a.defers } W)
    (hstop : ∀ (D : Nat) (c : Code) (pre : List α) (W : World), w.heap.size ≤ D → Sp pre → Ix c pre W → W.heap[D]? = some (.deferred (some [])) → c.wpIn Fence.wide n P Q { a with defers := { target := .collected D, args := #[] } :: a.defers } W) :
    (Code.rangeFunc g ps assign body).wpIn Fence.wide n P Q a w := by
  refine wpIn_rangeFunc fun fn hfn => ?_
  obtain ⟨B, hB⟩ : ∃ B, B = w.heap.size := ⟨_, rfl⟩
  obtain ⟨rc, hrc⟩ : ∃ rc : LoopState → Option Code → Loop, rc = fun st pe => { state := st, pending := pe, fn, tmps := a.tmps, params := ps, assign, body, defers := B } := ⟨_, rfl⟩
  obtain ⟨V, hV⟩ : ∃ V, V = (w.alloc (.deferred (some []))).alloc (.loop (rc .ready none)) := ⟨_, rfl⟩
  have hVs : V.heap.size = B + 2 := by rw [hV, hB]; simp
  have hVl : V.heap[B + 1]? = some (.loop (rc .ready none)) := by
    have h := World.alloc_heap_new (w.alloc (.deferred (some []))) (.loop (rc .ready none))
    rw [World.size_alloc, ← hB, ← hV] at h
    exact h
  have hVd : V.heap[B]? = some (.deferred (some [])) := by
    have h := World.alloc_heap_new w (.deferred (some []))
    rw [hV, hB]
    exact (Below.heap_alloc _ _ _ (by simp)).trans h
  have hVb : Below w.heap.size w V := by rw [hV]; exact ((Below.refl _ _).alloc (Nat.le_refl _) _).alloc (by simp) _
  have hVI : I [] V := hI _ _ _ h0 hVb
  rw [← hB] at hI hIx hAx hassign hbody hdone hstop
  refine ⟨B + 1, [{ target := .collected B, args := #[] }], V, { target := .fn (.func gf) lb, args := #[.func (.yield (B + 1)) #[] #[]] }, V, gf, #[.func (.yield (B + 1)) #[] #[]] ++ lb, V, ?_, ?_, fun _ _ => trivial, ?_, fun h => (by cases h), ?_⟩
  · rw [hV, hrc, hB]; exact run_enterLoop_outer _ _ _ _ _
  · simp only [resolve, hg]
    simp [go_sem]
  · simp [invoke, go_sem, eg]
  · refine (hseq (B + 1)
      (fun pre W => I pre W ∧ (W.heap[B + 1]? = some (.loop (rc .ready none)) ∧ W.heap[B]? = some (.deferred (some []))))
      (fun pre W => ∃ c, Ix c pre W ∧ (W.heap[B + 1]? = some (.loop (rc .done (some c))) ∧ W.heap[B]? = some (.deferred (some []))))
      V (by omega) (hb0.trans (hVb.mono hb0.size)) ?_ ?_ ?_ (fun pre W1 h => hNd pre W1 h.1) ⟨hVI, hVl, hVd⟩).mono ?_
    · rintro s A C ⟨h1, h2, h3⟩ hbl
      exact ⟨hI s A C h1 (hbl.mono (by omega)), (hbl.block _ (by omega)).trans h2, (hbl.block _ (by omega)).trans h3⟩
    · rintro s A C ⟨c, h1, h2, h3⟩ hbl
      exact ⟨c, hIx c s A C h1 (hbl.mono (by omega)), (hbl.block _ (by omega)).trans h2, (hbl.block _ (by omega)).trans h3⟩
    · rintro m pre x W ⟨hi, hl, hd⟩ hlen
      have hy := run_yield (P := P) (args := encs x) hl (by rw [hrc]; exact hps x)
      rw [hrc] at hy
      refine ⟨fn, _, assign, body, hy, roundIn_deepB rfl (roundIn_of_wpIn (n := n - 1 - 1) hfn (hassign (B + 1) pre x W _ hi fun a' Wa hka hia hxa => ?_))⟩
      have hla := hka.same _ _ (by omega) hl
      have hda := hka.same _ _ (Nat.le_refl _) hd
      have hlt := (Array.getElem?_eq_some_iff.1 hla).1
      refine ⟨_, run_beginRound hla (by rw [hrc]), ?_⟩
      have hl2 : (Wa.putObj (B + 1) (.loop { rc .ready none with state := .busy })).heap[B + 1]? = some (.loop { rc .ready none with state := .busy }) := World.putObj_heap_same hlt
      have hd2 : (Wa.putObj (B + 1) (.loop { rc .ready none with state := .busy })).heap[B]? = some (.deferred (some [])) := (World.putObj_heap_other (by omega)).trans hda
      refine wpIn_mono (hbody (B + 1) pre x a' _ (by omega) ⟨_, hl2⟩ (hI _ _ _ hia (below_putObj _ _ (by omega))) ((hAx x a').putObj (s := ()) _ hxa (by omega) hla rfl) hlen) ?_
      have put : ∀ (W' : World) (o : Obj), KeepsAll V.heap.size W' (W'.putObj (B + 1) o) := fun W' o => ⟨by simp, fun k o' hk h => (World.putObj_heap_other (by omega)).trans h⟩
      have keep : ∀ (W3 : World) (o : Obj), KeepsAll B (Wa.putObj (B + 1) (.loop { rc .ready none with state := .busy })) W3 → KeepsAll V.heap.size W (W3.putObj (B + 1) o) := fun W3 o h3 =>
        (hka.mono (by omega)).trans ((put Wa _).trans ((h3.mono (by omega)).trans (put W3 o)))
      have fin : ∀ (jump : Option Code) (W3 : World), KeepsAll B (Wa.putObj (B + 1) (.loop { rc .ready none with state := .busy })) W3 →
          (Instr.endRound (B + 1) jump).run P W3 = .ok (.bool jump.isNone) (W3.putObj (B + 1) (.loop (rc (if jump.isNone then .ready else .done) jump))) ∧
          W3.heap[B + 1]? = some (.loop { rc .ready none with state := .busy }) ∧
          (W3.putObj (B + 1) (.loop (rc (if jump.isNone then .ready else .done) jump))).heap[B + 1]? = some (.loop (rc (if jump.isNone then .ready else .done) jump)) ∧
          (W3.putObj (B + 1) (.loop (rc (if jump.isNone then .ready else .done) jump))).heap[B]? = some (.deferred (some [])) := fun jump W3 h3 => by
        have hl3 := h3.same _ _ (by omega) hl2
        have hr := run_endRound (P := P) jump hl3
        rw [hrc] at hr ⊢
        exact ⟨hr, by rw [hrc] at hl3; exact hl3, World.putObj_heap_same (Array.getElem?_eq_some_iff.1 hl3).1, (World.putObj_heap_other (by omega)).trans (h3.same _ _ (Nat.le_refl _) hd2)⟩
      rintro e a3 W3 hp
      cases e with
      | normal =>
        obtain ⟨hk3, hi3⟩ := hp
        obtain ⟨hr, hl3, hl4, hd4⟩ := fin none W3 hk3
        exact ⟨_, _, hr, keep W3 _ hk3, .inl ⟨rfl, hI _ _ _ hi3 (below_putObj _ _ (by omega)), hl4, hd4⟩⟩
      | ret =>
        obtain ⟨hk3, hi3⟩ := hp
        obtain ⟨hr, hl3, hl4, hd4⟩ := fin (some .ret) W3 hk3
        exact ⟨_, _, hr, keep W3 _ hk3, .inr ⟨rfl, .ret, hIx _ _ _ _ hi3 (below_putObj _ _ (by omega)), hl4, hd4⟩⟩
      | exit id =>
        obtain ⟨hk3, hi3⟩ := hp
        obtain ⟨hr, hl3, hl4, hd4⟩ := fin (some (.exit id)) W3 hk3
        exact ⟨_, _, hr, keep W3 _ hk3, .inr ⟨rfl, .exit id, hIx _ _ _ _ hi3 (below_putObj _ _ (by omega)), hl4, hd4⟩⟩
      | goto t =>
        obtain ⟨hk3, hi3⟩ := hp
        obtain ⟨hr, hl3, hl4, hd4⟩ := fin (some (.goto t)) W3 hk3
        exact ⟨_, _, hr, keep W3 _ hk3, .inr ⟨rfl, .goto t, hIx _ _ _ _ hi3 (below_putObj _ _ (by omega)), hl4, hd4⟩⟩
      | panic ch => exact hp.elim
      | outgrown => exact hp.elim
    · rintro e W2 ⟨⟨v, rfl⟩, (⟨xs, hS, hi, hl, hd⟩ | ⟨pre, hSp, c, hi, hl, hd⟩)⟩
      · exact ⟨none, _, by have h := run_endLoop (P := P) hl (by rw [hrc]; simp); rw [hrc] at h; exact h, hdone B xs _ (Nat.le_refl _) hS (hI _ _ _ hi (below_putObj _ _ (by omega))) ((World.putObj_heap_other (by omega)).trans hd)⟩
      · exact ⟨some c, _, by have h := run_endLoop (P := P) hl (by rw [hrc]; simp); rw [hrc] at h; exact h, hstop B c pre _ (Nat.le_refl _) hSp (hIx c _ _ _ hi (below_putObj _ _ (by omega))) ((World.putObj_heap_other (by omega)).trans hd)⟩
end Go.Proofs.YtgehpaojbnpbcaaGreatDoor
namespace Go.Proofs.YtgehpaojbnpbcaaGreatDoor
open Go Go.RowKit Go.Maps
attribute [local go_sem] Oper.semAt_some
theorem storeRow_in {P : Program} {n : Nat} {o : Oper} {a : Act} {w : World} {K : Act → World → Prop} {Q : Exit → Act → World → Prop} (ty : TypeId) (x y : Operand) (ho : o.op = .store ty x y)
    (g : Nat) (cells : Array Value) (hx : a.eval x = .pointer (some ⟨g, 0, none⟩)) (hy : a.eval y = .agg cells)
    (t : TypeId) (old : Array Value) (hg : w.heap[g]? = some (.cells old t (0, 0))) (hi : (P.info? ty).map (·.size) = some cells.size)
    (hold : old.size = cells.size) (h1 : cells.all (·.oneCell') = true)
    (h : K (a.put o.dst undef) (w.setRow g cells)) : o.wpIn Fence.wide n P a w K Q := by
  refine ⟨fun _ _ => trivial, ?_⟩
  have e : (o.semAt Fence.wide.round a.eval).run P w = .ok .skip (w.setRow g cells) := by
    show (execOp a.eval o).run P w = _
    unfold execOp
    simp only [ho, hx, hy, Instr.storeAt, Instr.sureAddr, Sem.run_bind, Sem.run_pure, Result.andThen_ok, run_storeVar_row w g t ty old cells hg hi hold h1]
  rw [e]
  exact h
theorem row_other {w : World} {x : Nat} {t : TypeId} {cs : List Value} (h : Row w x t cs) (g : Nat) (u : Array Value) (hg : x ≠ g) : Row (w.setRow g u) x t cs := (setRow_other w g x u hg).trans h
theorem wpListIn_ld {P : Program} {n : Nat} {ops : Array Oper} {rest : List Oper} {o : Oper} {a : Act} {w : World} {Q : Exit → Act → World → Prop} (hw : Region.wanted o (yielded ops a.tmps) = true) (ty : TypeId) (x : Operand) (ho : o.op = .load ty x)
    (g : Nat) (hx : a.eval x = .pointer (some ⟨g, 0, none⟩)) (t : TypeId) (cs : Array Value) (fr : Nat × Nat) (d : TypeDesc) (hg : w.heap[g]? = some (.cells cs t fr))
    (hu : P.underlying ty = some d) (hd : (match d with | .struct _ | .array _ _ => true | _ => false) = true) (hi : (P.info? ty).map (·.size) = some cs.size)
    (h : wpListIn Fence.wide n P ops Q rest (a.put o.dst (.agg cs)) w) : wpListIn Fence.wide n P ops Q (o :: rest) a w := by
  refine wpListIn_step fun K hK => ?_
  rw [if_pos hw]
  refine ⟨fun _ _ => trivial, ?_⟩
  have e : (o.semAt Fence.wide.round a.eval).run P w = .ok (.value (.agg cs)) w := by
    show (execOp a.eval o).run P w = _
    unfold execOp
    simp only [ho, hx, Instr.loadAt, Instr.sureAddr, Sem.run_bind, Sem.run_pure, Result.andThen_ok, run_loadVar_row w g t ty cs fr d hg hu hd hi]
  rw [e]
  exact hK _ _ h
theorem wpListIn_st {P : Program} {n : Nat} {ops : Array Oper} {rest : List Oper} {o : Oper} {a : Act} {w : World} {Q : Exit → Act → World → Prop} (hgd : o.guard = none) (ty : TypeId) (x y : Operand) (ho : o.op = .store ty x y)
    (g : Nat) (cells : Array Value) (hx : a.eval x = .pointer (some ⟨g, 0, none⟩)) (hy : a.eval y = .agg cells)
    (t : TypeId) (old : Array Value) (hg : w.heap[g]? = some (.cells old t (0, 0))) (hi : (P.info? ty).map (·.size) = some cells.size)
    (hold : old.size = cells.size) (h1 : cells.all (·.oneCell') = true)
    (h : wpListIn Fence.wide n P ops Q rest (a.put o.dst undef) (w.setRow g cells)) : wpListIn Fence.wide n P ops Q (o :: rest) a w :=
  wpListIn_plain hgd fun _ hK => storeRow_in ty x y ho g cells hx hy t old hg hi hold h1 (hK _ _ h)
def next_call (c m : Nat) (q : List Nat) (w : World) : Prop := Calls Tryz.prog 71 #[.agg (ptL q).toArray, .int .i64 (c : Int), .int .i64 (m : Int)] w fun e w' => e = .returned (.agg (ptL (nextL m q)).toArray) ∧ Below w.heap.size w w'
abbrev Rg (c m : Nat) := {l : List Nat // l ∈ rgL c 0 m}
set_option maxRecDepth 100000 in
set_option maxHeartbeats 8000000 in
theorem part_in {c m : Nat} (hc : c ≤ 7) (hm1 : 1 ≤ m) (hm : m ≤ 7) (l bc bm : Nat) (J Jx : List (Rg c m) → World → Prop) (W : World) (hJ : Stab W.heap.size J) (hlb : bc < W.heap.size ∧ bm < W.heap.size)
    (hY : ∀ pre x W1, J pre W1 → pre.length < (rgL c 0 m).length → YieldAt Fence.wide 5 Tryz.prog l #[.agg (ptL x.1).toArray] W1 fun e W' => KeepsAll W.heap.size W1 W' ∧
      ((e = .returned (.bool true) ∧ J (pre ++ [x]) W') ∨ (e = .returned (.bool false) ∧ Jx (pre ++ [x]) W')))
    (hNd : ∀ pre W1, J pre W1 → W1.cell? ⟨bc, 0, none⟩ = some (.int .i64 (c : Int)) ∧ W1.cell? ⟨bm, 0, none⟩ = some (.int .i64 (m : Int))) (h0 : J [] W) :
    Calls Tryz.prog 69 #[.func (.yield l) #[] #[], .pointer (some ⟨bc, 0, none⟩), .pointer (some ⟨bm, 0, none⟩)] W fun e W' => (∃ v, e = .returned v) ∧
      ((∃ xs : List (Rg c m), xs.map Subtype.val = rgL c 0 m ∧ J xs W') ∨ (∃ pre : List (Rg c m), pre.map Subtype.val <+: rgL c 0 m ∧ Jx pre W')) := by
  obtain ⟨hcc, hcm⟩ := hNd _ _ h0
  have CA : ∀ w, Calls Tryz.prog 70 #[.int .i64 (c : Int), .int .i64 1] w fun e w' => e = .returned (.agg (ptL (spreadL c 1)).toArray) ∧ Below w.heap.size w w' := fun w => spread_any c 1 hc (by omega) (by omega) w
  have CB := fun w => spread_any c m hc hm1 hm w
  have HB0 := Lib.hid ((Below.refl W.heap.size W).drew)
  refine (callsIn_wide (n := 6)).1 ?_
  refine callsIn_of_wp Tryz.func69 rfl trivial ?_ rfl
  simp only [Tryz.ntmps69, List.size_toArray, List.length_cons, List.length_nil, Nat.reduceAdd, Nat.reduceSub, Array.replicate_succ, Array.replicate_zero, List.push_toArray, List.append_toArray, List.nil_append, List.cons_append]
  gi_wp2
  gi_cut [4, 5] from 7 (fun s4 s5 wx => ∃ x4 x5, s4 = .pointer (some ⟨x4, 0, none⟩) ∧ s5 = .pointer (some ⟨x5, 0, none⟩) ∧ W.heap.size ≤ x4 ∧ W.heap.size ≤ x5 ∧ x4 ≠ x5 ∧ Row wx x4 86 (ptL (spreadL c 1)) ∧ Row wx x5 86 (ptL (spreadL c m)) ∧ Below W.heap.size W wx)
  case first =>
    refine wpIn_wide.2 (wp_region_kept (S := fun w' => Below W.heap.size W w') 99 (by kernel_rfl) ?_)
    generalize W.drew = v0 at *
    have hS0 := HB0.out
    refine KeptAny.tk (v := ?_) 0 hS0 (fun w' hw' => ?_) ?_
    rotate_left
    · (have g0 := (hw'.cell (p := ⟨bc, 0, none⟩) hlb.1).trans hcc; go_simp; try with_reducible rfl)
    refine KeptAny.tk (v := ?_) 2 hS0 (fun w' hw' => ?_) ?_
    rotate_left
    · (have g0 := (hw'.cell (p := ⟨bc, 0, none⟩) hlb.1).trans hcc; go_simp; try with_reducible rfl)
    refine KeptAny.tk (v := ?_) 3 hS0 (fun w' hw' => ?_) ?_
    rotate_left
    · (have g0 := (hw'.cell (p := ⟨bm, 0, none⟩) hlb.2).trans hcm; go_simp; try with_reducible rfl)
    clear hS0
    refine KeptAny.three (i := 1) (j := 5) (m := 6) (by kernel_rfl) ⟨_, rfl, by kernel_rfl, fun K hK => ?_⟩ ⟨_, rfl, by kernel_rfl, fun K hK => ?_⟩ ⟨_, rfl, by kernel_rfl, fun K hK => ?_⟩
    · go_simp
      refine ⟨trivial, ?_⟩
      refine ((callsIn_wide (n := 5)).2 (CA _)).mono ?_
      rintro e v1 ⟨rfl, hb⟩
      have HB1 := Lib.hid (HB0.out.trans (hb.mono HB0.out.size))
      refine hK.out _ _ HB1.out (fun _ => ?_)
      clear hK hb
      refine KeptAny.three (i := 4) (j := 5) (m := 6) (by kernel_rfl) ⟨_, rfl, by kernel_rfl, fun K hK => ?_⟩ ⟨_, rfl, by kernel_rfl, fun K hK => ?_⟩ ⟨_, rfl, by kernel_rfl, fun K hK => ?_⟩
      · go_simp
        refine ⟨trivial, ?_⟩
        refine ((callsIn_wide (n := 5)).2 (CB _)).mono ?_
        rintro e v2 ⟨rfl, hb⟩
        have HB2 := Lib.hid (HB1.out.trans (hb.mono HB1.out.size))
        refine hK.out _ _ HB2.out (fun _ => ?_)
        clear hK hb
        refine KeptAny.two (i := 5) (j := 6) (by kernel_rfl) ⟨_, rfl, by kernel_rfl, fun K hK => ?_⟩ ⟨_, rfl, by kernel_rfl, fun K hK => ?_⟩
        · go_simp
          have hb := (Below.refl v2.heap.size v2).alloc (Nat.le_refl _) (.cells #[.int .u8 0, .int .u8 0, .int .u8 0, .int .u8 0, .int .u8 0, .int .u8 0, .int .u8 0] 86)
          have HB3 := Lib.hid (HB2.out.trans (hb.mono HB2.out.size))
          have R4_3 := Lib.hid (Row.new v2 [.int .u8 0, .int .u8 0, .int .u8 0, .int .u8 0, .int .u8 0, .int .u8 0, .int .u8 0] 86)
          have hx4 : W.heap.size ≤ v2.heap.size := HB2.out.size
          refine hK.out _ _ HB3.out (fun _ => ?_)
          clear hK hb
          generalize v2.alloc (.cells #[.int .u8 0, .int .u8 0, .int .u8 0, .int .u8 0, .int .u8 0, .int .u8 0, .int .u8 0] 86) = v3 at *
          generalize v2.heap.size = x4 at *
          refine KeptAny.one (i := 6) (by kernel_rfl) rfl (by kernel_rfl) (fun K hK => ?_)
          go_simp
          have hb := (Below.refl v3.heap.size v3).alloc (Nat.le_refl _) (.cells #[.int .u8 0, .int .u8 0, .int .u8 0, .int .u8 0, .int .u8 0, .int .u8 0, .int .u8 0] 86)
          have HB4 := Lib.hid (HB3.out.trans (hb.mono HB3.out.size))
          have R5_4 := Lib.hid (Row.new v3 [.int .u8 0, .int .u8 0, .int .u8 0, .int .u8 0, .int .u8 0, .int .u8 0, .int .u8 0] 86)
          have R4_4 := Lib.hid (R4_3.out.below hb R4_3.out.lt)
          have hne : x4 ≠ v3.heap.size := Nat.ne_of_lt R4_3.out.lt
          have hx5 : W.heap.size ≤ v3.heap.size := HB3.out.size
          refine hK.out _ _ HB4.out (fun _ => ?_)
          clear hK hb
          generalize v3.alloc (.cells #[.int .u8 0, .int .u8 0, .int .u8 0, .int .u8 0, .int .u8 0, .int .u8 0, .int .u8 0] 86) = v4 at *
          generalize v3.heap.size = x5 at *
          refine KeptAny.one (i := 7) (by kernel_rfl) rfl (by kernel_rfl) (fun K hK => ?_)
          refine storeRow_in 86 _ _ rfl x4 (ptL (spreadL c 1)).toArray rfl rfl 86 _ R4_4.out (ptL_info _) (by simp [ptL_length]) (ptL_one _) ?_
          have HB5 := Lib.hid (HB4.out.trans (below_setRow v4 x4 (ptL (spreadL c 1)).toArray hx4))
          have R4_5 : Hid (Row (v4.setRow x4 (ptL (spreadL c 1)).toArray) x4 86 (ptL (spreadL c 1))) := Lib.hid (setRow_heap _ _ _ _ _ _ R4_4.out)
          have R5_5 := Lib.hid (row_other R5_4.out x4 (ptL (spreadL c 1)).toArray (by omega))
          refine hK.out _ _ HB5.out (fun _ => ?_)
          clear hK
          generalize v4.setRow x4 (ptL (spreadL c 1)).toArray = v5 at *
          refine KeptAny.one (i := 8) (by kernel_rfl) rfl (by kernel_rfl) (fun K hK => ?_)
          refine storeRow_in 86 _ _ rfl x5 (ptL (spreadL c m)).toArray rfl rfl 86 _ R5_5.out (ptL_info _) (by simp [ptL_length]) (ptL_one _) ?_
          have HB6 := Lib.hid (HB5.out.trans (below_setRow v5 x5 (ptL (spreadL c m)).toArray hx5))
          have R5_6 : Hid (Row (v5.setRow x5 (ptL (spreadL c m)).toArray) x5 86 (ptL (spreadL c m))) := Lib.hid (setRow_heap _ _ _ _ _ _ R5_5.out)
          have R4_6 := Lib.hid (row_other R4_5.out x5 (ptL (spreadL c m)).toArray (by omega))
          refine hK.out _ _ HB6.out (fun _ => ?_)
          clear hK
          generalize v5.setRow x5 (ptL (spreadL c m)).toArray = v6 at *
          refine KeptAny.done (by kernel_rfl) ?_ _
          gi_wp2
          gi_meet
          exact ⟨x4, x5, rfl, rfl, hx4, hx5, by omega, R4_6.out, R5_6.out, HB6.out⟩
        · go_simp
          have hb := (Below.refl v2.heap.size v2).alloc (Nat.le_refl _) (.cells #[.int .u8 0, .int .u8 0, .int .u8 0, .int .u8 0, .int .u8 0, .int .u8 0, .int .u8 0] 86)
          have HB7 := Lib.hid (HB2.out.trans (hb.mono HB2.out.size))
          have R5_7 := Lib.hid (Row.new v2 [.int .u8 0, .int .u8 0, .int .u8 0, .int .u8 0, .int .u8 0, .int .u8 0, .int .u8 0] 86)
          have hx5 : W.heap.size ≤ v2.heap.size := HB2.out.size
          refine hK.out _ _ HB7.out (fun _ => ?_)
          clear hK hb
          generalize v2.alloc (.cells #[.int .u8 0, .int .u8 0, .int .u8 0, .int .u8 0, .int .u8 0, .int .u8 0, .int .u8 0] 86) = v7 at *
          generalize v2.heap.size = x5 at *
          refine KeptAny.one (i := 5) (by kernel_rfl) rfl (by kernel_rfl) (fun K hK => ?_)
          go_simp
          have hb := (Below.refl v7.heap.size v7).alloc (Nat.le_refl _) (.cells #[.int .u8 0, .int .u8 0, .int .u8 0, .int .u8 0, .int .u8 0, .int .u8 0, .int .u8 0] 86)
          have HB8 := Lib.hid (HB7.out.trans (hb.mono HB7.out.size))
          have R4_8 := Lib.hid (Row.new v7 [.int .u8 0, .int .u8 0, .int .u8 0, .int .u8 0, .int .u8 0, .int .u8 0, .int .u8 0] 86)
          have R5_8 := Lib.hid (R5_7.out.below hb R5_7.out.lt)
          have hne : x5 ≠ v7.heap.size := Nat.ne_of_lt R5_7.out.lt
          have hx4 : W.heap.size ≤ v7.heap.size := HB7.out.size
          refine hK.out _ _ HB8.out (fun _ => ?_)
          clear hK hb
          generalize v7.alloc (.cells #[.int .u8 0, .int .u8 0, .int .u8 0, .int .u8 0, .int .u8 0, .int .u8 0, .int .u8 0] 86) = v8 at *
          generalize v7.heap.size = x4 at *
          refine KeptAny.one (i := 7) (by kernel_rfl) rfl (by kernel_rfl) (fun K hK => ?_)
          refine storeRow_in 86 _ _ rfl x4 (ptL (spreadL c 1)).toArray rfl rfl 86 _ R4_8.out (ptL_info _) (by simp [ptL_length]) (ptL_one _) ?_
          have HB9 := Lib.hid (HB8.out.trans (below_setRow v8 x4 (ptL (spreadL c 1)).toArray hx4))
          have R4_9 : Hid (Row (v8.setRow x4 (ptL (spreadL c 1)).toArray) x4 86 (ptL (spreadL c 1))) := Lib.hid (setRow_heap _ _ _ _ _ _ R4_8.out)
          have R5_9 := Lib.hid (row_other R5_8.out x4 (ptL (spreadL c 1)).toArray (by omega))
          refine hK.out _ _ HB9.out (fun _ => ?_)
          clear hK
          generalize v8.setRow x4 (ptL (spreadL c 1)).toArray = v9 at *
          refine KeptAny.one (i := 8) (by kernel_rfl) rfl (by kernel_rfl) (fun K hK => ?_)
          refine storeRow_in 86 _ _ rfl x5 (ptL (spreadL c m)).toArray rfl rfl 86 _ R5_9.out (ptL_info _) (by simp [ptL_length]) (ptL_one _) ?_
          have HB10 := Lib.hid (HB9.out.trans (below_setRow v9 x5 (ptL (spreadL c m)).toArray hx5))
          have R5_10 : Hid (Row (v9.setRow x5 (ptL (spreadL c m)).toArray) x5 86 (ptL (spreadL c m))) := Lib.hid (setRow_heap _ _ _ _ _ _ R5_9.out)
          have R4_10 := Lib.hid (row_other R4_9.out x5 (ptL (spreadL c m)).toArray (by omega))
          refine hK.out _ _ HB10.out (fun _ => ?_)
          clear hK
          generalize v9.setRow x5 (ptL (spreadL c m)).toArray = v10 at *
          refine KeptAny.done (by kernel_rfl) ?_ _
          gi_wp2
          gi_meet
          exact ⟨x4, x5, rfl, rfl, hx4, hx5, by omega, R4_10.out, R5_10.out, HB10.out⟩
      · go_simp
        have hb := (Below.refl v1.heap.size v1).alloc (Nat.le_refl _) (.cells #[.int .u8 0, .int .u8 0, .int .u8 0, .int .u8 0, .int .u8 0, .int .u8 0, .int .u8 0] 86)
        have HB11 := Lib.hid (HB1.out.trans (hb.mono HB1.out.size))
        have R4_11 := Lib.hid (Row.new v1 [.int .u8 0, .int .u8 0, .int .u8 0, .int .u8 0, .int .u8 0, .int .u8 0, .int .u8 0] 86)
        have hx4 : W.heap.size ≤ v1.heap.size := HB1.out.size
        refine hK.out _ _ HB11.out (fun _ => ?_)
        clear hK hb
        generalize v1.alloc (.cells #[.int .u8 0, .int .u8 0, .int .u8 0, .int .u8 0, .int .u8 0, .int .u8 0, .int .u8 0] 86) = v11 at *
        generalize v1.heap.size = x4 at *
        refine KeptAny.two (i := 4) (j := 6) (by kernel_rfl) ⟨_, rfl, by kernel_rfl, fun K hK => ?_⟩ ⟨_, rfl, by kernel_rfl, fun K hK => ?_⟩
        · go_simp
          refine ⟨trivial, ?_⟩
          refine ((callsIn_wide (n := 5)).2 (CB _)).mono ?_
          rintro e v12 ⟨rfl, hb⟩
          have HB12 := Lib.hid (HB11.out.trans (hb.mono HB11.out.size))
          have R4_12 := Lib.hid (R4_11.out.below hb R4_11.out.lt)
          refine hK.out _ _ HB12.out (fun _ => ?_)
          clear hK hb
          refine KeptAny.one (i := 6) (by kernel_rfl) rfl (by kernel_rfl) (fun K hK => ?_)
          go_simp
          have hb := (Below.refl v12.heap.size v12).alloc (Nat.le_refl _) (.cells #[.int .u8 0, .int .u8 0, .int .u8 0, .int .u8 0, .int .u8 0, .int .u8 0, .int .u8 0] 86)
          have HB13 := Lib.hid (HB12.out.trans (hb.mono HB12.out.size))
          have R5_13 := Lib.hid (Row.new v12 [.int .u8 0, .int .u8 0, .int .u8 0, .int .u8 0, .int .u8 0, .int .u8 0, .int .u8 0] 86)
          have R4_13 := Lib.hid (R4_12.out.below hb R4_12.out.lt)
          have hne : x4 ≠ v12.heap.size := Nat.ne_of_lt R4_12.out.lt
          have hx5 : W.heap.size ≤ v12.heap.size := HB12.out.size
          refine hK.out _ _ HB13.out (fun _ => ?_)
          clear hK hb
          generalize v12.alloc (.cells #[.int .u8 0, .int .u8 0, .int .u8 0, .int .u8 0, .int .u8 0, .int .u8 0, .int .u8 0] 86) = v13 at *
          generalize v12.heap.size = x5 at *
          refine KeptAny.one (i := 7) (by kernel_rfl) rfl (by kernel_rfl) (fun K hK => ?_)
          refine storeRow_in 86 _ _ rfl x4 (ptL (spreadL c 1)).toArray rfl rfl 86 _ R4_13.out (ptL_info _) (by simp [ptL_length]) (ptL_one _) ?_
          have HB14 := Lib.hid (HB13.out.trans (below_setRow v13 x4 (ptL (spreadL c 1)).toArray hx4))
          have R4_14 : Hid (Row (v13.setRow x4 (ptL (spreadL c 1)).toArray) x4 86 (ptL (spreadL c 1))) := Lib.hid (setRow_heap _ _ _ _ _ _ R4_13.out)
          have R5_14 := Lib.hid (row_other R5_13.out x4 (ptL (spreadL c 1)).toArray (by omega))
          refine hK.out _ _ HB14.out (fun _ => ?_)
          clear hK
          generalize v13.setRow x4 (ptL (spreadL c 1)).toArray = v14 at *
          refine KeptAny.one (i := 8) (by kernel_rfl) rfl (by kernel_rfl) (fun K hK => ?_)
          refine storeRow_in 86 _ _ rfl x5 (ptL (spreadL c m)).toArray rfl rfl 86 _ R5_14.out (ptL_info _) (by simp [ptL_length]) (ptL_one _) ?_
          have HB15 := Lib.hid (HB14.out.trans (below_setRow v14 x5 (ptL (spreadL c m)).toArray hx5))
          have R5_15 : Hid (Row (v14.setRow x5 (ptL (spreadL c m)).toArray) x5 86 (ptL (spreadL c m))) := Lib.hid (setRow_heap _ _ _ _ _ _ R5_14.out)
          have R4_15 := Lib.hid (row_other R4_14.out x5 (ptL (spreadL c m)).toArray (by omega))
          refine hK.out _ _ HB15.out (fun _ => ?_)
          clear hK
          generalize v14.setRow x5 (ptL (spreadL c m)).toArray = v15 at *
          refine KeptAny.done (by kernel_rfl) ?_ _
          gi_wp2
          gi_meet
          exact ⟨x4, x5, rfl, rfl, hx4, hx5, by omega, R4_15.out, R5_15.out, HB15.out⟩
        · go_simp
          have hb := (Below.refl v11.heap.size v11).alloc (Nat.le_refl _) (.cells #[.int .u8 0, .int .u8 0, .int .u8 0, .int .u8 0, .int .u8 0, .int .u8 0, .int .u8 0] 86)
          have HB16 := Lib.hid (HB11.out.trans (hb.mono HB11.out.size))
          have R5_16 := Lib.hid (Row.new v11 [.int .u8 0, .int .u8 0, .int .u8 0, .int .u8 0, .int .u8 0, .int .u8 0, .int .u8 0] 86)
          have R4_16 := Lib.hid (R4_11.out.below hb R4_11.out.lt)
          have hne : x4 ≠ v11.heap.size := Nat.ne_of_lt R4_11.out.lt
          have hx5 : W.heap.size ≤ v11.heap.size := HB11.out.size
          refine hK.out _ _ HB16.out (fun _ => ?_)
          clear hK hb
          generalize v11.alloc (.cells #[.int .u8 0, .int .u8 0, .int .u8 0, .int .u8 0, .int .u8 0, .int .u8 0, .int .u8 0] 86) = v16 at *
          generalize v11.heap.size = x5 at *
          refine KeptAny.one (i := 4) (by kernel_rfl) rfl (by kernel_rfl) (fun K hK => ?_)
          go_simp
          refine ⟨trivial, ?_⟩
          refine ((callsIn_wide (n := 5)).2 (CB _)).mono ?_
          rintro e v17 ⟨rfl, hb⟩
          have HB17 := Lib.hid (HB16.out.trans (hb.mono HB16.out.size))
          have R4_17 := Lib.hid (R4_16.out.below hb R4_16.out.lt)
          have R5_17 := Lib.hid (R5_16.out.below hb R5_16.out.lt)
          refine hK.out _ _ HB17.out (fun _ => ?_)
          clear hK hb
          refine KeptAny.one (i := 7) (by kernel_rfl) rfl (by kernel_rfl) (fun K hK => ?_)
          refine storeRow_in 86 _ _ rfl x4 (ptL (spreadL c 1)).toArray rfl rfl 86 _ R4_17.out (ptL_info _) (by simp [ptL_length]) (ptL_one _) ?_
          have HB18 := Lib.hid (HB17.out.trans (below_setRow v17 x4 (ptL (spreadL c 1)).toArray hx4))
          have R4_18 : Hid (Row (v17.setRow x4 (ptL (spreadL c 1)).toArray) x4 86 (ptL (spreadL c 1))) := Lib.hid (setRow_heap _ _ _ _ _ _ R4_17.out)
          have R5_18 := Lib.hid (row_other R5_17.out x4 (ptL (spreadL c 1)).toArray (by omega))
          refine hK.out _ _ HB18.out (fun _ => ?_)
          clear hK
          generalize v17.setRow x4 (ptL (spreadL c 1)).toArray = v18 at *
          refine KeptAny.one (i := 8) (by kernel_rfl) rfl (by kernel_rfl) (fun K hK => ?_)
          refine storeRow_in 86 _ _ rfl x5 (ptL (spreadL c m)).toArray rfl rfl 86 _ R5_18.out (ptL_info _) (by simp [ptL_length]) (ptL_one _) ?_
          have HB19 := Lib.hid (HB18.out.trans (below_setRow v18 x5 (ptL (spreadL c m)).toArray hx5))
          have R5_19 : Hid (Row (v18.setRow x5 (ptL (spreadL c m)).toArray) x5 86 (ptL (spreadL c m))) := Lib.hid (setRow_heap _ _ _ _ _ _ R5_18.out)
          have R4_19 := Lib.hid (row_other R4_18.out x5 (ptL (spreadL c m)).toArray (by omega))
          refine hK.out _ _ HB19.out (fun _ => ?_)
          clear hK
          generalize v18.setRow x5 (ptL (spreadL c m)).toArray = v19 at *
          refine KeptAny.done (by kernel_rfl) ?_ _
          gi_wp2
          gi_meet
          exact ⟨x4, x5, rfl, rfl, hx4, hx5, by omega, R4_19.out, R5_19.out, HB19.out⟩
      · go_simp
        have hb := (Below.refl v1.heap.size v1).alloc (Nat.le_refl _) (.cells #[.int .u8 0, .int .u8 0, .int .u8 0, .int .u8 0, .int .u8 0, .int .u8 0, .int .u8 0] 86)
        have HB20 := Lib.hid (HB1.out.trans (hb.mono HB1.out.size))
        have R5_20 := Lib.hid (Row.new v1 [.int .u8 0, .int .u8 0, .int .u8 0, .int .u8 0, .int .u8 0, .int .u8 0, .int .u8 0] 86)
        have hx5 : W.heap.size ≤ v1.heap.size := HB1.out.size
        refine hK.out _ _ HB20.out (fun _ => ?_)
        clear hK hb
        generalize v1.alloc (.cells #[.int .u8 0, .int .u8 0, .int .u8 0, .int .u8 0, .int .u8 0, .int .u8 0, .int .u8 0] 86) = v20 at *
        generalize v1.heap.size = x5 at *
        refine KeptAny.two (i := 4) (j := 5) (by kernel_rfl) ⟨_, rfl, by kernel_rfl, fun K hK => ?_⟩ ⟨_, rfl, by kernel_rfl, fun K hK => ?_⟩
        · go_simp
          refine ⟨trivial, ?_⟩
          refine ((callsIn_wide (n := 5)).2 (CB _)).mono ?_
          rintro e v21 ⟨rfl, hb⟩
          have HB21 := Lib.hid (HB20.out.trans (hb.mono HB20.out.size))
          have R5_21 := Lib.hid (R5_20.out.below hb R5_20.out.lt)
          refine hK.out _ _ HB21.out (fun _ => ?_)
          clear hK hb
          refine KeptAny.one (i := 5) (by kernel_rfl) rfl (by kernel_rfl) (fun K hK => ?_)
          go_simp
          have hb := (Below.refl v21.heap.size v21).alloc (Nat.le_refl _) (.cells #[.int .u8 0, .int .u8 0, .int .u8 0, .int .u8 0, .int .u8 0, .int .u8 0, .int .u8 0] 86)
          have HB22 := Lib.hid (HB21.out.trans (hb.mono HB21.out.size))
          have R4_22 := Lib.hid (Row.new v21 [.int .u8 0, .int .u8 0, .int .u8 0, .int .u8 0, .int .u8 0, .int .u8 0, .int .u8 0] 86)
          have R5_22 := Lib.hid (R5_21.out.below hb R5_21.out.lt)
          have hne : x5 ≠ v21.heap.size := Nat.ne_of_lt R5_21.out.lt
          have hx4 : W.heap.size ≤ v21.heap.size := HB21.out.size
          refine hK.out _ _ HB22.out (fun _ => ?_)
          clear hK hb
          generalize v21.alloc (.cells #[.int .u8 0, .int .u8 0, .int .u8 0, .int .u8 0, .int .u8 0, .int .u8 0, .int .u8 0] 86) = v22 at *
          generalize v21.heap.size = x4 at *
          refine KeptAny.one (i := 7) (by kernel_rfl) rfl (by kernel_rfl) (fun K hK => ?_)
          refine storeRow_in 86 _ _ rfl x4 (ptL (spreadL c 1)).toArray rfl rfl 86 _ R4_22.out (ptL_info _) (by simp [ptL_length]) (ptL_one _) ?_
          have HB23 := Lib.hid (HB22.out.trans (below_setRow v22 x4 (ptL (spreadL c 1)).toArray hx4))
          have R4_23 : Hid (Row (v22.setRow x4 (ptL (spreadL c 1)).toArray) x4 86 (ptL (spreadL c 1))) := Lib.hid (setRow_heap _ _ _ _ _ _ R4_22.out)
          have R5_23 := Lib.hid (row_other R5_22.out x4 (ptL (spreadL c 1)).toArray (by omega))
          refine hK.out _ _ HB23.out (fun _ => ?_)
          clear hK
          generalize v22.setRow x4 (ptL (spreadL c 1)).toArray = v23 at *
          refine KeptAny.one (i := 8) (by kernel_rfl) rfl (by kernel_rfl) (fun K hK => ?_)
          refine storeRow_in 86 _ _ rfl x5 (ptL (spreadL c m)).toArray rfl rfl 86 _ R5_23.out (ptL_info _) (by simp [ptL_length]) (ptL_one _) ?_
          have HB24 := Lib.hid (HB23.out.trans (below_setRow v23 x5 (ptL (spreadL c m)).toArray hx5))
          have R5_24 : Hid (Row (v23.setRow x5 (ptL (spreadL c m)).toArray) x5 86 (ptL (spreadL c m))) := Lib.hid (setRow_heap _ _ _ _ _ _ R5_23.out)
          have R4_24 := Lib.hid (row_other R4_23.out x5 (ptL (spreadL c m)).toArray (by omega))
          refine hK.out _ _ HB24.out (fun _ => ?_)
          clear hK
          generalize v23.setRow x5 (ptL (spreadL c m)).toArray = v24 at *
          refine KeptAny.done (by kernel_rfl) ?_ _
          gi_wp2
          gi_meet
          exact ⟨x4, x5, rfl, rfl, hx4, hx5, by omega, R4_24.out, R5_24.out, HB24.out⟩
        · go_simp
          have hb := (Below.refl v20.heap.size v20).alloc (Nat.le_refl _) (.cells #[.int .u8 0, .int .u8 0, .int .u8 0, .int .u8 0, .int .u8 0, .int .u8 0, .int .u8 0] 86)
          have HB25 := Lib.hid (HB20.out.trans (hb.mono HB20.out.size))
          have R4_25 := Lib.hid (Row.new v20 [.int .u8 0, .int .u8 0, .int .u8 0, .int .u8 0, .int .u8 0, .int .u8 0, .int .u8 0] 86)
          have R5_25 := Lib.hid (R5_20.out.below hb R5_20.out.lt)
          have hne : x5 ≠ v20.heap.size := Nat.ne_of_lt R5_20.out.lt
          have hx4 : W.heap.size ≤ v20.heap.size := HB20.out.size
          refine hK.out _ _ HB25.out (fun _ => ?_)
          clear hK hb
          generalize v20.alloc (.cells #[.int .u8 0, .int .u8 0, .int .u8 0, .int .u8 0, .int .u8 0, .int .u8 0, .int .u8 0] 86) = v25 at *
          generalize v20.heap.size = x4 at *
          refine KeptAny.one (i := 4) (by kernel_rfl) rfl (by kernel_rfl) (fun K hK => ?_)
          go_simp
          refine ⟨trivial, ?_⟩
          refine ((callsIn_wide (n := 5)).2 (CB _)).mono ?_
          rintro e v26 ⟨rfl, hb⟩
          have HB26 := Lib.hid (HB25.out.trans (hb.mono HB25.out.size))
          have R5_26 := Lib.hid (R5_25.out.below hb R5_25.out.lt)
          have R4_26 := Lib.hid (R4_25.out.below hb R4_25.out.lt)
          refine hK.out _ _ HB26.out (fun _ => ?_)
          clear hK hb
          refine KeptAny.one (i := 7) (by kernel_rfl) rfl (by kernel_rfl) (fun K hK => ?_)
          refine storeRow_in 86 _ _ rfl x4 (ptL (spreadL c 1)).toArray rfl rfl 86 _ R4_26.out (ptL_info _) (by simp [ptL_length]) (ptL_one _) ?_
          have HB27 := Lib.hid (HB26.out.trans (below_setRow v26 x4 (ptL (spreadL c 1)).toArray hx4))
          have R4_27 : Hid (Row (v26.setRow x4 (ptL (spreadL c 1)).toArray) x4 86 (ptL (spreadL c 1))) := Lib.hid (setRow_heap _ _ _ _ _ _ R4_26.out)
          have R5_27 := Lib.hid (row_other R5_26.out x4 (ptL (spreadL c 1)).toArray (by omega))
          refine hK.out _ _ HB27.out (fun _ => ?_)
          clear hK
          generalize v26.setRow x4 (ptL (spreadL c 1)).toArray = v27 at *
          refine KeptAny.one (i := 8) (by kernel_rfl) rfl (by kernel_rfl) (fun K hK => ?_)
          refine storeRow_in 86 _ _ rfl x5 (ptL (spreadL c m)).toArray rfl rfl 86 _ R5_27.out (ptL_info _) (by simp [ptL_length]) (ptL_one _) ?_
          have HB28 := Lib.hid (HB27.out.trans (below_setRow v27 x5 (ptL (spreadL c m)).toArray hx5))
          have R5_28 : Hid (Row (v27.setRow x5 (ptL (spreadL c m)).toArray) x5 86 (ptL (spreadL c m))) := Lib.hid (setRow_heap _ _ _ _ _ _ R5_27.out)
          have R4_28 := Lib.hid (row_other R4_27.out x5 (ptL (spreadL c m)).toArray (by omega))
          refine hK.out _ _ HB28.out (fun _ => ?_)
          clear hK
          generalize v27.setRow x5 (ptL (spreadL c m)).toArray = v28 at *
          refine KeptAny.done (by kernel_rfl) ?_ _
          gi_wp2
          gi_meet
          exact ⟨x4, x5, rfl, rfl, hx4, hx5, by omega, R4_28.out, R5_28.out, HB28.out⟩
    · go_simp
      have hb := (Below.refl v0.heap.size v0).alloc (Nat.le_refl _) (.cells #[.int .u8 0, .int .u8 0, .int .u8 0, .int .u8 0, .int .u8 0, .int .u8 0, .int .u8 0] 86)
      have HB29 := Lib.hid (HB0.out.trans (hb.mono HB0.out.size))
      have R4_29 := Lib.hid (Row.new v0 [.int .u8 0, .int .u8 0, .int .u8 0, .int .u8 0, .int .u8 0, .int .u8 0, .int .u8 0] 86)
      have hx4 : W.heap.size ≤ v0.heap.size := HB0.out.size
      refine hK.out _ _ HB29.out (fun _ => ?_)
      clear hK hb
      generalize v0.alloc (.cells #[.int .u8 0, .int .u8 0, .int .u8 0, .int .u8 0, .int .u8 0, .int .u8 0, .int .u8 0] 86) = v29 at *
      generalize v0.heap.size = x4 at *
      refine KeptAny.two (i := 1) (j := 6) (by kernel_rfl) ⟨_, rfl, by kernel_rfl, fun K hK => ?_⟩ ⟨_, rfl, by kernel_rfl, fun K hK => ?_⟩
      · go_simp
        refine ⟨trivial, ?_⟩
        refine ((callsIn_wide (n := 5)).2 (CA _)).mono ?_
        rintro e v30 ⟨rfl, hb⟩
        have HB30 := Lib.hid (HB29.out.trans (hb.mono HB29.out.size))
        have R4_30 := Lib.hid (R4_29.out.below hb R4_29.out.lt)
        refine hK.out _ _ HB30.out (fun _ => ?_)
        clear hK hb
        refine KeptAny.two (i := 4) (j := 6) (by kernel_rfl) ⟨_, rfl, by kernel_rfl, fun K hK => ?_⟩ ⟨_, rfl, by kernel_rfl, fun K hK => ?_⟩
        · go_simp
          refine ⟨trivial, ?_⟩
          refine ((callsIn_wide (n := 5)).2 (CB _)).mono ?_
          rintro e v31 ⟨rfl, hb⟩
          have HB31 := Lib.hid (HB30.out.trans (hb.mono HB30.out.size))
          have R4_31 := Lib.hid (R4_30.out.below hb R4_30.out.lt)
          refine hK.out _ _ HB31.out (fun _ => ?_)
          clear hK hb
          refine KeptAny.one (i := 6) (by kernel_rfl) rfl (by kernel_rfl) (fun K hK => ?_)
          go_simp
          have hb := (Below.refl v31.heap.size v31).alloc (Nat.le_refl _) (.cells #[.int .u8 0, .int .u8 0, .int .u8 0, .int .u8 0, .int .u8 0, .int .u8 0, .int .u8 0] 86)
          have HB32 := Lib.hid (HB31.out.trans (hb.mono HB31.out.size))
          have R5_32 := Lib.hid (Row.new v31 [.int .u8 0, .int .u8 0, .int .u8 0, .int .u8 0, .int .u8 0, .int .u8 0, .int .u8 0] 86)
          have R4_32 := Lib.hid (R4_31.out.below hb R4_31.out.lt)
          have hne : x4 ≠ v31.heap.size := Nat.ne_of_lt R4_31.out.lt
          have hx5 : W.heap.size ≤ v31.heap.size := HB31.out.size
          refine hK.out _ _ HB32.out (fun _ => ?_)
          clear hK hb
          generalize v31.alloc (.cells #[.int .u8 0, .int .u8 0, .int .u8 0, .int .u8 0, .int .u8 0, .int .u8 0, .int .u8 0] 86) = v32 at *
          generalize v31.heap.size = x5 at *
          refine KeptAny.one (i := 7) (by kernel_rfl) rfl (by kernel_rfl) (fun K hK => ?_)
          refine storeRow_in 86 _ _ rfl x4 (ptL (spreadL c 1)).toArray rfl rfl 86 _ R4_32.out (ptL_info _) (by simp [ptL_length]) (ptL_one _) ?_
          have HB33 := Lib.hid (HB32.out.trans (below_setRow v32 x4 (ptL (spreadL c 1)).toArray hx4))
          have R4_33 : Hid (Row (v32.setRow x4 (ptL (spreadL c 1)).toArray) x4 86 (ptL (spreadL c 1))) := Lib.hid (setRow_heap _ _ _ _ _ _ R4_32.out)
          have R5_33 := Lib.hid (row_other R5_32.out x4 (ptL (spreadL c 1)).toArray (by omega))
          refine hK.out _ _ HB33.out (fun _ => ?_)
          clear hK
          generalize v32.setRow x4 (ptL (spreadL c 1)).toArray = v33 at *
          refine KeptAny.one (i := 8) (by kernel_rfl) rfl (by kernel_rfl) (fun K hK => ?_)
          refine storeRow_in 86 _ _ rfl x5 (ptL (spreadL c m)).toArray rfl rfl 86 _ R5_33.out (ptL_info _) (by simp [ptL_length]) (ptL_one _) ?_
          have HB34 := Lib.hid (HB33.out.trans (below_setRow v33 x5 (ptL (spreadL c m)).toArray hx5))
          have R5_34 : Hid (Row (v33.setRow x5 (ptL (spreadL c m)).toArray) x5 86 (ptL (spreadL c m))) := Lib.hid (setRow_heap _ _ _ _ _ _ R5_33.out)
          have R4_34 := Lib.hid (row_other R4_33.out x5 (ptL (spreadL c m)).toArray (by omega))
          refine hK.out _ _ HB34.out (fun _ => ?_)
          clear hK
          generalize v33.setRow x5 (ptL (spreadL c m)).toArray = v34 at *
          refine KeptAny.done (by kernel_rfl) ?_ _
          gi_wp2
          gi_meet
          exact ⟨x4, x5, rfl, rfl, hx4, hx5, by omega, R4_34.out, R5_34.out, HB34.out⟩
        · go_simp
          have hb := (Below.refl v30.heap.size v30).alloc (Nat.le_refl _) (.cells #[.int .u8 0, .int .u8 0, .int .u8 0, .int .u8 0, .int .u8 0, .int .u8 0, .int .u8 0] 86)
          have HB35 := Lib.hid (HB30.out.trans (hb.mono HB30.out.size))
          have R5_35 := Lib.hid (Row.new v30 [.int .u8 0, .int .u8 0, .int .u8 0, .int .u8 0, .int .u8 0, .int .u8 0, .int .u8 0] 86)
          have R4_35 := Lib.hid (R4_30.out.below hb R4_30.out.lt)
          have hne : x4 ≠ v30.heap.size := Nat.ne_of_lt R4_30.out.lt
          have hx5 : W.heap.size ≤ v30.heap.size := HB30.out.size
          refine hK.out _ _ HB35.out (fun _ => ?_)
          clear hK hb
          generalize v30.alloc (.cells #[.int .u8 0, .int .u8 0, .int .u8 0, .int .u8 0, .int .u8 0, .int .u8 0, .int .u8 0] 86) = v35 at *
          generalize v30.heap.size = x5 at *
          refine KeptAny.one (i := 4) (by kernel_rfl) rfl (by kernel_rfl) (fun K hK => ?_)
          go_simp
          refine ⟨trivial, ?_⟩
          refine ((callsIn_wide (n := 5)).2 (CB _)).mono ?_
          rintro e v36 ⟨rfl, hb⟩
          have HB36 := Lib.hid (HB35.out.trans (hb.mono HB35.out.size))
          have R4_36 := Lib.hid (R4_35.out.below hb R4_35.out.lt)
          have R5_36 := Lib.hid (R5_35.out.below hb R5_35.out.lt)
          refine hK.out _ _ HB36.out (fun _ => ?_)
          clear hK hb
          refine KeptAny.one (i := 7) (by kernel_rfl) rfl (by kernel_rfl) (fun K hK => ?_)
          refine storeRow_in 86 _ _ rfl x4 (ptL (spreadL c 1)).toArray rfl rfl 86 _ R4_36.out (ptL_info _) (by simp [ptL_length]) (ptL_one _) ?_
          have HB37 := Lib.hid (HB36.out.trans (below_setRow v36 x4 (ptL (spreadL c 1)).toArray hx4))
          have R4_37 : Hid (Row (v36.setRow x4 (ptL (spreadL c 1)).toArray) x4 86 (ptL (spreadL c 1))) := Lib.hid (setRow_heap _ _ _ _ _ _ R4_36.out)
          have R5_37 := Lib.hid (row_other R5_36.out x4 (ptL (spreadL c 1)).toArray (by omega))
          refine hK.out _ _ HB37.out (fun _ => ?_)
          clear hK
          generalize v36.setRow x4 (ptL (spreadL c 1)).toArray = v37 at *
          refine KeptAny.one (i := 8) (by kernel_rfl) rfl (by kernel_rfl) (fun K hK => ?_)
          refine storeRow_in 86 _ _ rfl x5 (ptL (spreadL c m)).toArray rfl rfl 86 _ R5_37.out (ptL_info _) (by simp [ptL_length]) (ptL_one _) ?_
          have HB38 := Lib.hid (HB37.out.trans (below_setRow v37 x5 (ptL (spreadL c m)).toArray hx5))
          have R5_38 : Hid (Row (v37.setRow x5 (ptL (spreadL c m)).toArray) x5 86 (ptL (spreadL c m))) := Lib.hid (setRow_heap _ _ _ _ _ _ R5_37.out)
          have R4_38 := Lib.hid (row_other R4_37.out x5 (ptL (spreadL c m)).toArray (by omega))
          refine hK.out _ _ HB38.out (fun _ => ?_)
          clear hK
          generalize v37.setRow x5 (ptL (spreadL c m)).toArray = v38 at *
          refine KeptAny.done (by kernel_rfl) ?_ _
          gi_wp2
          gi_meet
          exact ⟨x4, x5, rfl, rfl, hx4, hx5, by omega, R4_38.out, R5_38.out, HB38.out⟩
      · go_simp
        have hb := (Below.refl v29.heap.size v29).alloc (Nat.le_refl _) (.cells #[.int .u8 0, .int .u8 0, .int .u8 0, .int .u8 0, .int .u8 0, .int .u8 0, .int .u8 0] 86)
        have HB39 := Lib.hid (HB29.out.trans (hb.mono HB29.out.size))
        have R5_39 := Lib.hid (Row.new v29 [.int .u8 0, .int .u8 0, .int .u8 0, .int .u8 0, .int .u8 0, .int .u8 0, .int .u8 0] 86)
        have R4_39 := Lib.hid (R4_29.out.below hb R4_29.out.lt)
        have hne : x4 ≠ v29.heap.size := Nat.ne_of_lt R4_29.out.lt
        have hx5 : W.heap.size ≤ v29.heap.size := HB29.out.size
        refine hK.out _ _ HB39.out (fun _ => ?_)
        clear hK hb
        generalize v29.alloc (.cells #[.int .u8 0, .int .u8 0, .int .u8 0, .int .u8 0, .int .u8 0, .int .u8 0, .int .u8 0] 86) = v39 at *
        generalize v29.heap.size = x5 at *
        refine KeptAny.one (i := 1) (by kernel_rfl) rfl (by kernel_rfl) (fun K hK => ?_)
        go_simp
        refine ⟨trivial, ?_⟩
        refine ((callsIn_wide (n := 5)).2 (CA _)).mono ?_
        rintro e v40 ⟨rfl, hb⟩
        have HB40 := Lib.hid (HB39.out.trans (hb.mono HB39.out.size))
        have R4_40 := Lib.hid (R4_39.out.below hb R4_39.out.lt)
        have R5_40 := Lib.hid (R5_39.out.below hb R5_39.out.lt)
        refine hK.out _ _ HB40.out (fun _ => ?_)
        clear hK hb
        refine KeptAny.one (i := 4) (by kernel_rfl) rfl (by kernel_rfl) (fun K hK => ?_)
        go_simp
        refine ⟨trivial, ?_⟩
        refine ((callsIn_wide (n := 5)).2 (CB _)).mono ?_
        rintro e v41 ⟨rfl, hb⟩
        have HB41 := Lib.hid (HB40.out.trans (hb.mono HB40.out.size))
        have R4_41 := Lib.hid (R4_40.out.below hb R4_40.out.lt)
        have R5_41 := Lib.hid (R5_40.out.below hb R5_40.out.lt)
        refine hK.out _ _ HB41.out (fun _ => ?_)
        clear hK hb
        refine KeptAny.one (i := 7) (by kernel_rfl) rfl (by kernel_rfl) (fun K hK => ?_)
        refine storeRow_in 86 _ _ rfl x4 (ptL (spreadL c 1)).toArray rfl rfl 86 _ R4_41.out (ptL_info _) (by simp [ptL_length]) (ptL_one _) ?_
        have HB42 := Lib.hid (HB41.out.trans (below_setRow v41 x4 (ptL (spreadL c 1)).toArray hx4))
        have R4_42 : Hid (Row (v41.setRow x4 (ptL (spreadL c 1)).toArray) x4 86 (ptL (spreadL c 1))) := Lib.hid (setRow_heap _ _ _ _ _ _ R4_41.out)
        have R5_42 := Lib.hid (row_other R5_41.out x4 (ptL (spreadL c 1)).toArray (by omega))
        refine hK.out _ _ HB42.out (fun _ => ?_)
        clear hK
        generalize v41.setRow x4 (ptL (spreadL c 1)).toArray = v42 at *
        refine KeptAny.one (i := 8) (by kernel_rfl) rfl (by kernel_rfl) (fun K hK => ?_)
        refine storeRow_in 86 _ _ rfl x5 (ptL (spreadL c m)).toArray rfl rfl 86 _ R5_42.out (ptL_info _) (by simp [ptL_length]) (ptL_one _) ?_
        have HB43 := Lib.hid (HB42.out.trans (below_setRow v42 x5 (ptL (spreadL c m)).toArray hx5))
        have R5_43 : Hid (Row (v42.setRow x5 (ptL (spreadL c m)).toArray) x5 86 (ptL (spreadL c m))) := Lib.hid (setRow_heap _ _ _ _ _ _ R5_42.out)
        have R4_43 := Lib.hid (row_other R4_42.out x5 (ptL (spreadL c m)).toArray (by omega))
        refine hK.out _ _ HB43.out (fun _ => ?_)
        clear hK
        generalize v42.setRow x5 (ptL (spreadL c m)).toArray = v43 at *
        refine KeptAny.done (by kernel_rfl) ?_ _
        gi_wp2
        gi_meet
        exact ⟨x4, x5, rfl, rfl, hx4, hx5, by omega, R4_43.out, R5_43.out, HB43.out⟩
    · go_simp
      have hb := (Below.refl v0.heap.size v0).alloc (Nat.le_refl _) (.cells #[.int .u8 0, .int .u8 0, .int .u8 0, .int .u8 0, .int .u8 0, .int .u8 0, .int .u8 0] 86)
      have HB44 := Lib.hid (HB0.out.trans (hb.mono HB0.out.size))
      have R5_44 := Lib.hid (Row.new v0 [.int .u8 0, .int .u8 0, .int .u8 0, .int .u8 0, .int .u8 0, .int .u8 0, .int .u8 0] 86)
      have hx5 : W.heap.size ≤ v0.heap.size := HB0.out.size
      refine hK.out _ _ HB44.out (fun _ => ?_)
      clear hK hb
      generalize v0.alloc (.cells #[.int .u8 0, .int .u8 0, .int .u8 0, .int .u8 0, .int .u8 0, .int .u8 0, .int .u8 0] 86) = v44 at *
      generalize v0.heap.size = x5 at *
      refine KeptAny.two (i := 1) (j := 5) (by kernel_rfl) ⟨_, rfl, by kernel_rfl, fun K hK => ?_⟩ ⟨_, rfl, by kernel_rfl, fun K hK => ?_⟩
      · go_simp
        refine ⟨trivial, ?_⟩
        refine ((callsIn_wide (n := 5)).2 (CA _)).mono ?_
        rintro e v45 ⟨rfl, hb⟩
        have HB45 := Lib.hid (HB44.out.trans (hb.mono HB44.out.size))
        have R5_45 := Lib.hid (R5_44.out.below hb R5_44.out.lt)
        refine hK.out _ _ HB45.out (fun _ => ?_)
        clear hK hb
        refine KeptAny.two (i := 4) (j := 5) (by kernel_rfl) ⟨_, rfl, by kernel_rfl, fun K hK => ?_⟩ ⟨_, rfl, by kernel_rfl, fun K hK => ?_⟩
        · go_simp
          refine ⟨trivial, ?_⟩
          refine ((callsIn_wide (n := 5)).2 (CB _)).mono ?_
          rintro e v46 ⟨rfl, hb⟩
          have HB46 := Lib.hid (HB45.out.trans (hb.mono HB45.out.size))
          have R5_46 := Lib.hid (R5_45.out.below hb R5_45.out.lt)
          refine hK.out _ _ HB46.out (fun _ => ?_)
          clear hK hb
          refine KeptAny.one (i := 5) (by kernel_rfl) rfl (by kernel_rfl) (fun K hK => ?_)
          go_simp
          have hb := (Below.refl v46.heap.size v46).alloc (Nat.le_refl _) (.cells #[.int .u8 0, .int .u8 0, .int .u8 0, .int .u8 0, .int .u8 0, .int .u8 0, .int .u8 0] 86)
          have HB47 := Lib.hid (HB46.out.trans (hb.mono HB46.out.size))
          have R4_47 := Lib.hid (Row.new v46 [.int .u8 0, .int .u8 0, .int .u8 0, .int .u8 0, .int .u8 0, .int .u8 0, .int .u8 0] 86)
          have R5_47 := Lib.hid (R5_46.out.below hb R5_46.out.lt)
          have hne : x5 ≠ v46.heap.size := Nat.ne_of_lt R5_46.out.lt
          have hx4 : W.heap.size ≤ v46.heap.size := HB46.out.size
          refine hK.out _ _ HB47.out (fun _ => ?_)
          clear hK hb
          generalize v46.alloc (.cells #[.int .u8 0, .int .u8 0, .int .u8 0, .int .u8 0, .int .u8 0, .int .u8 0, .int .u8 0] 86) = v47 at *
          generalize v46.heap.size = x4 at *
          refine KeptAny.one (i := 7) (by kernel_rfl) rfl (by kernel_rfl) (fun K hK => ?_)
          refine storeRow_in 86 _ _ rfl x4 (ptL (spreadL c 1)).toArray rfl rfl 86 _ R4_47.out (ptL_info _) (by simp [ptL_length]) (ptL_one _) ?_
          have HB48 := Lib.hid (HB47.out.trans (below_setRow v47 x4 (ptL (spreadL c 1)).toArray hx4))
          have R4_48 : Hid (Row (v47.setRow x4 (ptL (spreadL c 1)).toArray) x4 86 (ptL (spreadL c 1))) := Lib.hid (setRow_heap _ _ _ _ _ _ R4_47.out)
          have R5_48 := Lib.hid (row_other R5_47.out x4 (ptL (spreadL c 1)).toArray (by omega))
          refine hK.out _ _ HB48.out (fun _ => ?_)
          clear hK
          generalize v47.setRow x4 (ptL (spreadL c 1)).toArray = v48 at *
          refine KeptAny.one (i := 8) (by kernel_rfl) rfl (by kernel_rfl) (fun K hK => ?_)
          refine storeRow_in 86 _ _ rfl x5 (ptL (spreadL c m)).toArray rfl rfl 86 _ R5_48.out (ptL_info _) (by simp [ptL_length]) (ptL_one _) ?_
          have HB49 := Lib.hid (HB48.out.trans (below_setRow v48 x5 (ptL (spreadL c m)).toArray hx5))
          have R5_49 : Hid (Row (v48.setRow x5 (ptL (spreadL c m)).toArray) x5 86 (ptL (spreadL c m))) := Lib.hid (setRow_heap _ _ _ _ _ _ R5_48.out)
          have R4_49 := Lib.hid (row_other R4_48.out x5 (ptL (spreadL c m)).toArray (by omega))
          refine hK.out _ _ HB49.out (fun _ => ?_)
          clear hK
          generalize v48.setRow x5 (ptL (spreadL c m)).toArray = v49 at *
          refine KeptAny.done (by kernel_rfl) ?_ _
          gi_wp2
          gi_meet
          exact ⟨x4, x5, rfl, rfl, hx4, hx5, by omega, R4_49.out, R5_49.out, HB49.out⟩
        · go_simp
          have hb := (Below.refl v45.heap.size v45).alloc (Nat.le_refl _) (.cells #[.int .u8 0, .int .u8 0, .int .u8 0, .int .u8 0, .int .u8 0, .int .u8 0, .int .u8 0] 86)
          have HB50 := Lib.hid (HB45.out.trans (hb.mono HB45.out.size))
          have R4_50 := Lib.hid (Row.new v45 [.int .u8 0, .int .u8 0, .int .u8 0, .int .u8 0, .int .u8 0, .int .u8 0, .int .u8 0] 86)
          have R5_50 := Lib.hid (R5_45.out.below hb R5_45.out.lt)
          have hne : x5 ≠ v45.heap.size := Nat.ne_of_lt R5_45.out.lt
          have hx4 : W.heap.size ≤ v45.heap.size := HB45.out.size
          refine hK.out _ _ HB50.out (fun _ => ?_)
          clear hK hb
          generalize v45.alloc (.cells #[.int .u8 0, .int .u8 0, .int .u8 0, .int .u8 0, .int .u8 0, .int .u8 0, .int .u8 0] 86) = v50 at *
          generalize v45.heap.size = x4 at *
          refine KeptAny.one (i := 4) (by kernel_rfl) rfl (by kernel_rfl) (fun K hK => ?_)
          go_simp
          refine ⟨trivial, ?_⟩
          refine ((callsIn_wide (n := 5)).2 (CB _)).mono ?_
          rintro e v51 ⟨rfl, hb⟩
          have HB51 := Lib.hid (HB50.out.trans (hb.mono HB50.out.size))
          have R5_51 := Lib.hid (R5_50.out.below hb R5_50.out.lt)
          have R4_51 := Lib.hid (R4_50.out.below hb R4_50.out.lt)
          refine hK.out _ _ HB51.out (fun _ => ?_)
          clear hK hb
          refine KeptAny.one (i := 7) (by kernel_rfl) rfl (by kernel_rfl) (fun K hK => ?_)
          refine storeRow_in 86 _ _ rfl x4 (ptL (spreadL c 1)).toArray rfl rfl 86 _ R4_51.out (ptL_info _) (by simp [ptL_length]) (ptL_one _) ?_
          have HB52 := Lib.hid (HB51.out.trans (below_setRow v51 x4 (ptL (spreadL c 1)).toArray hx4))
          have R4_52 : Hid (Row (v51.setRow x4 (ptL (spreadL c 1)).toArray) x4 86 (ptL (spreadL c 1))) := Lib.hid (setRow_heap _ _ _ _ _ _ R4_51.out)
          have R5_52 := Lib.hid (row_other R5_51.out x4 (ptL (spreadL c 1)).toArray (by omega))
          refine hK.out _ _ HB52.out (fun _ => ?_)
          clear hK
          generalize v51.setRow x4 (ptL (spreadL c 1)).toArray = v52 at *
          refine KeptAny.one (i := 8) (by kernel_rfl) rfl (by kernel_rfl) (fun K hK => ?_)
          refine storeRow_in 86 _ _ rfl x5 (ptL (spreadL c m)).toArray rfl rfl 86 _ R5_52.out (ptL_info _) (by simp [ptL_length]) (ptL_one _) ?_
          have HB53 := Lib.hid (HB52.out.trans (below_setRow v52 x5 (ptL (spreadL c m)).toArray hx5))
          have R5_53 : Hid (Row (v52.setRow x5 (ptL (spreadL c m)).toArray) x5 86 (ptL (spreadL c m))) := Lib.hid (setRow_heap _ _ _ _ _ _ R5_52.out)
          have R4_53 := Lib.hid (row_other R4_52.out x5 (ptL (spreadL c m)).toArray (by omega))
          refine hK.out _ _ HB53.out (fun _ => ?_)
          clear hK
          generalize v52.setRow x5 (ptL (spreadL c m)).toArray = v53 at *
          refine KeptAny.done (by kernel_rfl) ?_ _
          gi_wp2
          gi_meet
          exact ⟨x4, x5, rfl, rfl, hx4, hx5, by omega, R4_53.out, R5_53.out, HB53.out⟩
      · go_simp
        have hb := (Below.refl v44.heap.size v44).alloc (Nat.le_refl _) (.cells #[.int .u8 0, .int .u8 0, .int .u8 0, .int .u8 0, .int .u8 0, .int .u8 0, .int .u8 0] 86)
        have HB54 := Lib.hid (HB44.out.trans (hb.mono HB44.out.size))
        have R4_54 := Lib.hid (Row.new v44 [.int .u8 0, .int .u8 0, .int .u8 0, .int .u8 0, .int .u8 0, .int .u8 0, .int .u8 0] 86)
        have R5_54 := Lib.hid (R5_44.out.below hb R5_44.out.lt)
        have hne : x5 ≠ v44.heap.size := Nat.ne_of_lt R5_44.out.lt
        have hx4 : W.heap.size ≤ v44.heap.size := HB44.out.size
        refine hK.out _ _ HB54.out (fun _ => ?_)
        clear hK hb
        generalize v44.alloc (.cells #[.int .u8 0, .int .u8 0, .int .u8 0, .int .u8 0, .int .u8 0, .int .u8 0, .int .u8 0] 86) = v54 at *
        generalize v44.heap.size = x4 at *
        refine KeptAny.one (i := 1) (by kernel_rfl) rfl (by kernel_rfl) (fun K hK => ?_)
        go_simp
        refine ⟨trivial, ?_⟩
        refine ((callsIn_wide (n := 5)).2 (CA _)).mono ?_
        rintro e v55 ⟨rfl, hb⟩
        have HB55 := Lib.hid (HB54.out.trans (hb.mono HB54.out.size))
        have R5_55 := Lib.hid (R5_54.out.below hb R5_54.out.lt)
        have R4_55 := Lib.hid (R4_54.out.below hb R4_54.out.lt)
        refine hK.out _ _ HB55.out (fun _ => ?_)
        clear hK hb
        refine KeptAny.one (i := 4) (by kernel_rfl) rfl (by kernel_rfl) (fun K hK => ?_)
        go_simp
        refine ⟨trivial, ?_⟩
        refine ((callsIn_wide (n := 5)).2 (CB _)).mono ?_
        rintro e v56 ⟨rfl, hb⟩
        have HB56 := Lib.hid (HB55.out.trans (hb.mono HB55.out.size))
        have R5_56 := Lib.hid (R5_55.out.below hb R5_55.out.lt)
        have R4_56 := Lib.hid (R4_55.out.below hb R4_55.out.lt)
        refine hK.out _ _ HB56.out (fun _ => ?_)
        clear hK hb
        refine KeptAny.one (i := 7) (by kernel_rfl) rfl (by kernel_rfl) (fun K hK => ?_)
        refine storeRow_in 86 _ _ rfl x4 (ptL (spreadL c 1)).toArray rfl rfl 86 _ R4_56.out (ptL_info _) (by simp [ptL_length]) (ptL_one _) ?_
        have HB57 := Lib.hid (HB56.out.trans (below_setRow v56 x4 (ptL (spreadL c 1)).toArray hx4))
        have R4_57 : Hid (Row (v56.setRow x4 (ptL (spreadL c 1)).toArray) x4 86 (ptL (spreadL c 1))) := Lib.hid (setRow_heap _ _ _ _ _ _ R4_56.out)
        have R5_57 := Lib.hid (row_other R5_56.out x4 (ptL (spreadL c 1)).toArray (by omega))
        refine hK.out _ _ HB57.out (fun _ => ?_)
        clear hK
        generalize v56.setRow x4 (ptL (spreadL c 1)).toArray = v57 at *
        refine KeptAny.one (i := 8) (by kernel_rfl) rfl (by kernel_rfl) (fun K hK => ?_)
        refine storeRow_in 86 _ _ rfl x5 (ptL (spreadL c m)).toArray rfl rfl 86 _ R5_57.out (ptL_info _) (by simp [ptL_length]) (ptL_one _) ?_
        have HB58 := Lib.hid (HB57.out.trans (below_setRow v57 x5 (ptL (spreadL c m)).toArray hx5))
        have R5_58 : Hid (Row (v57.setRow x5 (ptL (spreadL c m)).toArray) x5 86 (ptL (spreadL c m))) := Lib.hid (setRow_heap _ _ _ _ _ _ R5_57.out)
        have R4_58 := Lib.hid (row_other R4_57.out x5 (ptL (spreadL c m)).toArray (by omega))
        refine hK.out _ _ HB58.out (fun _ => ?_)
        clear hK
        generalize v57.setRow x5 (ptL (spreadL c m)).toArray = v58 at *
        refine KeptAny.done (by kernel_rfl) ?_ _
        gi_wp2
        gi_meet
        exact ⟨x4, x5, rfl, rfl, hx4, hx5, by omega, R4_58.out, R5_58.out, HB58.out⟩
  case rest =>
    obtain ⟨x4, x5, rfl, rfl, h4, h5, hne, hr4, hr5, hbw⟩ := hcut
    have H4 := hr4
    unfold Row at H4
    have hbn := (Below.refl wc.heap.size wc).alloc (Nat.le_refl _) (.cells #[.int .u8 0, .int .u8 0, .int .u8 0, .int .u8 0, .int .u8 0, .int .u8 0, .int .u8 0] 86)
    have hrn := Row.new wc [.int .u8 0, .int .u8 0, .int .u8 0, .int .u8 0, .int .u8 0, .int .u8 0, .int .u8 0] 86
    have hbx := hbn.trans (below_setRow (wc.alloc (.cells #[.int .u8 0, .int .u8 0, .int .u8 0, .int .u8 0, .int .u8 0, .int .u8 0, .int .u8 0] 86)) wc.heap.size (ptL (spreadL c 1)).toArray (Nat.le_refl _))
    have hr6 : Row ((wc.alloc (.cells #[.int .u8 0, .int .u8 0, .int .u8 0, .int .u8 0, .int .u8 0, .int .u8 0, .int .u8 0] 86)).setRow wc.heap.size (ptL (spreadL c 1)).toArray) wc.heap.size 86 (ptL (spreadL c 1)) := setRow_heap _ _ _ _ _ _ hrn
    have HS0 : Hid (J [] ((wc.alloc (.cells #[.int .u8 0, .int .u8 0, .int .u8 0, .int .u8 0, .int .u8 0, .int .u8 0, .int .u8 0] 86)).setRow wc.heap.size (ptL (spreadL c 1)).toArray) ∧ Row ((wc.alloc (.cells #[.int .u8 0, .int .u8 0, .int .u8 0, .int .u8 0, .int .u8 0, .int .u8 0, .int .u8 0] 86)).setRow wc.heap.size (ptL (spreadL c 1)).toArray) wc.heap.size 86 (ptL (spreadL c 1)) ∧ Row ((wc.alloc (.cells #[.int .u8 0, .int .u8 0, .int .u8 0, .int .u8 0, .int .u8 0, .int .u8 0, .int .u8 0] 86)).setRow wc.heap.size (ptL (spreadL c 1)).toArray) x5 86 (ptL (spreadL c m)) ∧ W.heap.size ≤ wc.heap.size ∧ wc.heap.size ≠ x5) :=
      Lib.hid ⟨hJ _ _ _ h0 (hbw.trans (hbx.mono hbw.size)), hr6, hr5.below hbx hr5.lt, hbw.size, by have := hr5.lt; omega⟩
    have HFST := Lib.hid (rg_first hc hm1 hm)
    clear hr4 hr5 hbw hbn hbx hr6
    unfold Row at hrn
    gi_wp2_with (first
      | (refine wpListIn_ld rfl 86 _ rfl x4 rfl 86 _ (0, 0) _ H4 Tryz.underlying86 rfl (ptL_info _) ?_)
      | (refine wpListIn_st rfl 86 _ _ rfl wc.heap.size (ptL (spreadL c 1)).toArray rfl rfl 86 _ hrn (ptL_info _) (by simp [ptL_length]) (ptL_one _) ?_))
    go_simp
    clear hrn H4
    gi_loopg [6] (rgL c 0 m).length (fun g v wr => ∃ (x6 k : Nat) (q : List Nat) (pre : List (Rg c m)), v = .pointer (some ⟨x6, 0, none⟩) ∧ k + g = (rgL c 0 m).length ∧ Hid ((rgL c 0 m)[k]? = some q) ∧ Hid (pre.map Subtype.val = (rgL c 0 m).take k) ∧ Hid (J pre wr ∧ Row wr x6 86 (ptL q) ∧ Row wr x5 86 (ptL (spreadL c m)) ∧ W.heap.size ≤ x6 ∧ x6 ≠ x5))
    case atStart => exact ⟨_, 0, _, [], rfl, by omega, HFST, Lib.hid rfl, HS0⟩
    case round =>
      obtain ⟨x6, k, q, pre, rfl, hkg, HQ, HP, HI⟩ := hrel
      have hk : k < (rgL c 0 m).length := (List.getElem?_eq_some_iff.1 HQ.out).1
      have hmem : q ∈ rgL c 0 m := List.mem_of_getElem? HQ.out
      have hlen : pre.length < (rgL c 0 m).length := by
        have := congrArg List.length HP.out
        simp at this
        omega
      have HNX := Lib.hid (rg_next hc hm1 hm HQ.out)
      have HTK : Hid ((pre ++ [(⟨q, hmem⟩ : Rg c m)]).map Subtype.val = (rgL c 0 m).take (k + 1)) := Lib.hid (by rw [List.map_append, HP.out, List.take_add_one, HQ.out]; rfl)
      have HQL : Hid (q.length = c ∧ ∀ x ∈ q, x < 7) := Lib.hid ⟨rgL_length _ _ _ _ hmem, fun x hx => Nat.lt_of_lt_of_le (rgL_lt _ _ _ _ hmem x hx) hm⟩
      obtain ⟨fn, tmps, assign, body, hy, hR⟩ := hY pre ⟨q, hmem⟩ wr HI.out.1 hlen
      dsimp only at hy
      have HR := Lib.hid (hR.mono (R' := fun e W' => ∃ t, e = .returned (.bool t) ∧ Hid (KeepsAll W.heap.size wr W' ∧ ((t = true ∧ J (pre ++ [⟨q, hmem⟩]) W') ∨ (t = false ∧ Jx (pre ++ [⟨q, hmem⟩]) W')))) (by
        rintro e W' ⟨hka, (⟨he, h1⟩ | ⟨he, h1⟩)⟩
        · exact ⟨true, he, Lib.hid ⟨hka, .inl ⟨rfl, h1⟩⟩⟩
        · exact ⟨false, he, Lib.hid ⟨hka, .inr ⟨rfl, h1⟩⟩⟩))
      clear hR hlen hk
      have t6 := HI.out.2.1
      unfold Row at t6
      gi_wp2_with (refine wpListIn_ld rfl 86 _ rfl x6 rfl 86 _ (0, 0) _ t6 Tryz.underlying86 rfl (ptL_info _) ?_)
      refine HR.out.mono ?_
      rintro e W3 ⟨t, rfl, hq⟩
      obtain ⟨hka, hq2⟩ := hq.out
      have hr6 := hka.row HI.out.2.2.2.1 HI.out.2.1
      have hr5 := hka.row h5 HI.out.2.2.1
      have HW3 : Hid (W.heap.size ≤ W3.heap.size) := Lib.hid (by have := hr5.lt; omega)
      clear HR hy t6 hq hka
      rcases hq2 with ⟨rfl, hJ3⟩ | ⟨rfl, hx3⟩
      · obtain ⟨hc3, hm3⟩ := hNd _ _ hJ3
        have t6 := hr6
        have t5 := hr5
        unfold Row at t6 t5
        have HJ3 := Lib.hid hJ3
        have HR6 := Lib.hid hr6
        have HR5 := Lib.hid hr5
        clear hJ3 hr6 hr5
        have hN : ∀ w, (binOp .neq 86 (.agg (ptL q).toArray) (.agg (ptL (spreadL c m)).toArray)).run Tryz.prog w = .ok (.bool (!(q == spreadL c m))) w := fun w => by
          rw [run_neq_struct, eqPt_run 9998 (by rw [HQL.out.1]; simp [spreadL]) (by rw [HQL.out.1]; exact hc)]
          rfl
        by_cases hl : q = spreadL c m
        · have hb : (!(q == spreadL c m)) = false := by simpa using hl
          rw [hb] at hN
          have HL := Lib.hid hl
          clear hb hl
          gi_wp2_with (first
            | (refine wpListIn_ld rfl 86 _ rfl x6 rfl 86 _ (0, 0) _ t6 Tryz.underlying86 rfl (ptL_info _) ?_)
            | (refine wpListIn_ld rfl 86 _ rfl x5 rfl 86 _ (0, 0) _ t5 Tryz.underlying86 rfl (ptL_info _) ?_))
          have HX : Hid ((pre ++ [(⟨q, hmem⟩ : Rg c m)]).map Subtype.val = rgL c 0 m) := Lib.hid (by rw [HTK.out, HNX.out.1.2 HL.out, List.take_length])
          go_end0
          exact ⟨⟨_, rfl⟩, .inl ⟨_, HX.out, HJ3.out⟩⟩
        · have hb : (!(q == spreadL c m)) = true := by simpa using hl
          rw [hb] at hN
          have hk1 : k + 1 < (rgL c 0 m).length := by
            have h0 := (List.getElem?_eq_some_iff.1 HQ.out).1
            have h1 : k + 1 ≠ (rgL c 0 m).length := fun e => hl (HNX.out.1.1 e)
            omega
          have HQ1 := Lib.hid (HNX.out.2 hk1)
          have HNE : Hid (next_call c m q W3) := Lib.hid (by
            have := next_any m hm1 hm q (by rw [HQL.out.1]; exact hc) HQL.out.2 W3
            rw [HQL.out.1] at this
            exact this)
          clear hb hl
          gi_wp2_with (first
            | (refine wpListIn_ld rfl 86 _ rfl x6 rfl 86 _ (0, 0) _ t6 Tryz.underlying86 rfl (ptL_info _) ?_)
            | (refine wpListIn_ld rfl 86 _ rfl x5 rfl 86 _ (0, 0) _ t5 Tryz.underlying86 rfl (ptL_info _) ?_))
          first | refine ⟨trivial, ?_⟩ | skip
          refine ((callsIn_wide (n := 5)).2 HNE.out).mono ?_
          rintro e w4 ⟨rfl, hb4⟩
          have s6 := HR6.out.below hb4 HR6.out.lt
          have s5 := HR5.out.below hb4 HR5.out.lt
          have hS : Below W.heap.size W3 (w4.setRow x6 (ptL (nextL m q)).toArray) := (hb4.mono HW3.out).trans (below_setRow w4 x6 _ HI.out.2.2.2.1)
          have HJ5 := Lib.hid (hJ _ _ _ HJ3.out hS)
          have r6 : Row (w4.setRow x6 (ptL (nextL m q)).toArray) x6 86 (ptL (nextL m q)) := setRow_heap _ _ _ _ _ _ s6
          have r5 := row_other s5 x6 (ptL (nextL m q)).toArray (Ne.symm HI.out.2.2.2.2)
          have HR5' := Lib.hid r5
          have HW5 : Hid (W.heap.size ≤ (w4.setRow x6 (ptL (nextL m q)).toArray).heap.size) := Lib.hid (Nat.le_trans HW3.out hS.size)
          unfold Row at s6 r6
          clear t6 t5 hN hc3 hm3 hb4 hS s5 r5
          obtain ⟨w5, hw5⟩ : ∃ w5, w4.setRow x6 (ptL (nextL m q)).toArray = w5 := ⟨_, rfl⟩
          rw [hw5] at HJ5 HR5' HW5 r6
          have hbn := (Below.refl w5.heap.size w5).alloc (Nat.le_refl _) (.cells #[.int .u8 0, .int .u8 0, .int .u8 0, .int .u8 0, .int .u8 0, .int .u8 0, .int .u8 0] 86)
          have hrn := Row.new w5 [.int .u8 0, .int .u8 0, .int .u8 0, .int .u8 0, .int .u8 0, .int .u8 0, .int .u8 0] 86
          have hbx := hbn.trans (below_setRow (w5.alloc (.cells #[.int .u8 0, .int .u8 0, .int .u8 0, .int .u8 0, .int .u8 0, .int .u8 0, .int .u8 0] 86)) w5.heap.size (ptL (nextL m q)).toArray (Nat.le_refl _))
          have hr7 : Row ((w5.alloc (.cells #[.int .u8 0, .int .u8 0, .int .u8 0, .int .u8 0, .int .u8 0, .int .u8 0, .int .u8 0] 86)).setRow w5.heap.size (ptL (nextL m q)).toArray) w5.heap.size 86 (ptL (nextL m q)) := setRow_heap _ _ _ _ _ _ hrn
          have HF : Hid (J (pre ++ [⟨q, hmem⟩]) ((w5.alloc (.cells #[.int .u8 0, .int .u8 0, .int .u8 0, .int .u8 0, .int .u8 0, .int .u8 0, .int .u8 0] 86)).setRow w5.heap.size (ptL (nextL m q)).toArray) ∧ Row ((w5.alloc (.cells #[.int .u8 0, .int .u8 0, .int .u8 0, .int .u8 0, .int .u8 0, .int .u8 0, .int .u8 0] 86)).setRow w5.heap.size (ptL (nextL m q)).toArray) w5.heap.size 86 (ptL (nextL m q)) ∧ Row ((w5.alloc (.cells #[.int .u8 0, .int .u8 0, .int .u8 0, .int .u8 0, .int .u8 0, .int .u8 0, .int .u8 0] 86)).setRow w5.heap.size (ptL (nextL m q)).toArray) x5 86 (ptL (spreadL c m)) ∧ W.heap.size ≤ w5.heap.size ∧ w5.heap.size ≠ x5) :=
            Lib.hid ⟨hJ _ _ _ HJ5.out (hbx.mono HW5.out), hr7, HR5'.out.below hbx HR5'.out.lt, HW5.out, by have := HR5'.out.lt; omega⟩
          clear hbn hbx hr7
          unfold Row at hrn
          subst hw5
          have hsz : (w4.setRow x6 (ptL (nextL m q)).toArray).heap.size = w4.heap.size := by simp
          rw [hsz] at hrn HF
          gi_wp2_with (first
            | (refine wpListIn_st rfl 86 _ _ rfl x6 (ptL (nextL m q)).toArray rfl rfl 86 _ s6 (ptL_info _) (by simp [ptL_length]) (ptL_one _) ?_)
            | (refine wpListIn_ld rfl 86 _ rfl x6 rfl 86 _ (0, 0) _ r6 Tryz.underlying86 rfl (ptL_info _) ?_)
            | (refine wpListIn_st rfl 86 _ _ rfl _ (ptL (nextL m q)).toArray rfl rfl 86 _ hrn (ptL_info _) (by simp [ptL_length]) (ptL_one _) ?_))
          go_simp
          go_roundg (gk - 1)
          case measure => omega
          case rel => exact ⟨_, k + 1, _, _, rfl, by omega, HQ1, HTK, HF⟩
      · have HX : Hid ((pre ++ [(⟨q, hmem⟩ : Rg c m)]).map Subtype.val <+: rgL c 0 m) := Lib.hid (by rw [HTK.out]; exact List.take_prefix _ _)
        gi_wp2
        go_end0
        exact ⟨⟨_, rfl⟩, .inr ⟨_, HX.out, hx3⟩⟩
theorem partitions_any (c m : Nat) (w : World) :
    Calls Tryz.prog 44 #[.int .i64 (c : Int), .int .i64 (m : Int)] w fun e w' => e = .returned (.func (.func 69) #[] #[.pointer (some ⟨w.heap.size, 0, none⟩), .pointer (some ⟨w.heap.size + 1, 0, none⟩)]) ∧ w' = (w.alloc (.cells #[.int .i64 (c : Int)] 3)).alloc (.cells #[.int .i64 (m : Int)] 3) := by
  go_enter Tryz.func44, Tryz.ntmps44
  go_wp2
  go_ret
  exact ⟨rfl, rfl⟩
/-- What the iterator owes a loop over it. -/
theorem part_stops (n : Nat) {c m : Nat} (hc : c ≤ 7) (hm1 : 1 ≤ m) (hm : m ≤ 7) (bc bm : Nat) (w : World) (hlb : bc < w.heap.size ∧ bm < w.heap.size) :
    SeqB n Tryz.prog 69 #[.pointer (some ⟨bc, 0, none⟩), .pointer (some ⟨bm, 0, none⟩)] (fun x : Rg c m => #[.agg (ptL x.1).toArray]) (fun xs => xs.map Subtype.val = rgL c 0 m) (fun pre => pre.map Subtype.val <+: rgL c 0 m) (rgL c 0 m).length
      (fun W => W.cell? ⟨bc, 0, none⟩ = some (.int .i64 (c : Int)) ∧ W.cell? ⟨bm, 0, none⟩ = some (.int .i64 (m : Int))) w :=
  fun l J Jx W _ hW hJ _ hY hNd h0 =>
    (callsIn_wide (n := n)).2 (part_in hc hm1 hm l bc bm J Jx W hJ ⟨Nat.lt_of_lt_of_le hlb.1 hW.size, Nat.lt_of_lt_of_le hlb.2 hW.size⟩ (fun pre x W1 h hl => hY 5 pre x W1 h hl) hNd h0)
end Go.Proofs.YtgehpaojbnpbcaaGreatDoor
