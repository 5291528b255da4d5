/-
  The walks of CommonScope, the given one and impl's. Conditions: the argument's memory holds the graph; the package-level errors hold errors.
-/
import Derived.Test.YtoijapbffhkbbaaDoorWImplWithin
namespace Go.Proofs.YtoijapbffhkbbaaDoor
open Go Go.RowKit Go.Maps
attribute [local go_sem] Oper.semAt_some run_equal_set
theorem find_at {l : List Nat} {p : Nat → Bool} {k x : Nat} (hx : l[k]? = some x) (hp : p x = true) (hn : ∀ m, m ∈ l.take k → p m = false) : l.find? p = some x := by
  have hk := (List.getElem?_eq_some_iff.1 hx).1
  have e : l = l.take k ++ x :: l.drop (k + 1) := by
    have h1 := List.drop_eq_getElem_cons hk
    rw [(List.getElem?_eq_some_iff.1 hx).2] at h1
    rw [← h1, List.take_append_drop]
  rw [e, List.find?_append, List.find?_cons_of_pos hp, List.find?_eq_none.2 (fun m hm => by simp [hn m hm])]
  rfl
/-- What CommonScope answers. -/
def commonR (ss : List Sc) (a b z : Int) : Prop := (¬ (HasScope ss a ∧ HasScope ss b) ∧ z = -1) ∨ ((HasScope ss a ∧ HasScope ss b) ∧ z = (commonP ss a.toNat b.toNat : Int))
theorem commonR.same {ss : List Sc} {a b z z' : Int} (h : commonR ss a b z) (k : commonR ss a b z') : z = z' := by
  rcases h with ⟨h1, h2⟩ | ⟨h1, h2⟩ <;> rcases k with ⟨k1, k2⟩ | ⟨k1, k2⟩
  · rw [h2, k2]
  · exact absurd k1 h1
  · exact absurd h1 k1
  · rw [h2, k2]
theorem common_at {ss : List Sc} {a b k x : Nat} (hx : (chainP ss a)[k]? = some x) (hm : x ∈ chainP ss b) (hn : ∀ m, m ∈ (chainP ss a).take k → m ∉ chainP ss b) : commonP ss a b = x := by
  unfold commonP
  rw [find_at hx (by simpa using hm) (fun m h => by simpa using hn m h)]
  rfl
theorem cellsKept_own1 {α : Type} {w0 : World} {n : Nat} (_ : w0.heap.size ≤ n) : OwnFrom n (fun (_ : α) W => CellsKept w0.heap.size w0 W) := cellsKept_own w0
/-- impl's one: what holds at the head of a round. -/
def NoneYet {ds : List Nd} (c : Nat) (pre : List (NdOf ds)) : Prop := ∀ m, m ∈ pre.map NdOf.num → m ≠ c
set_option maxRecDepth 100000 in
set_option maxHeartbeats 4000000 in
theorem implCommon_any (ss : List Sc) (hF : Fair ss) (oa : Option Addr) (cap : Nat) (a b : Int) (w : World) (hc : HoldsScopes w oa ss) (hE : NodeErrs w) :
    Calls Tryd.prog 52 #[.agg #[.slice oa ss.length cap], .int .i64 a, .int .i64 b] w fun e w' => ∃ z, e = .returned (.int .i64 z) ∧ commonR ss a b z ∧ Below w.heap.size w w' := by
  have hb0 := ((Below.refl w.heap.size w).alloc (Nat.le_refl _) (.cells #[.slice oa ss.length cap] 30)).alloc (by simp) (.cells #[.int .i64 0] 3)
  have C := Lib.hid ((callsIn_wide (n := 5)).2 (nodeOf_any ss hF oa cap a _ (hc.below hb0 (Nat.le_refl _)) (hE.at hb0)))
  have HB0 := Lib.hid hb0
  have HE := Lib.hid hE
  have hR0 := Row.new (w.alloc (.cells #[.slice oa ss.length cap] 30)) [.int .i64 0] 3
  rw [World.size_alloc] at hR0
  have R0 := Lib.hid hR0
  clear hF hc hE hb0 hR0
  refine (callsIn_wide (n := 6)).1 ?_
  refine callsIn_of_wp_marks Tryd.func52 rfl trivial ?_ rfl
  simp only [Tryd.ntmps52, List.size_toArray, List.length_cons, List.length_nil, Nat.reduceAdd, Nat.reduceSub, Array.replicate_succ, Array.replicate_zero, List.push_toArray, List.append_toArray, List.nil_append, List.cons_append]
  gi_wp2_with fail
  refine ⟨trivial, ?_⟩
  gi_at_call 75
  refine C.out.mono ?_
  rintro e w1 (⟨hv, ⟨tp, p, rfl⟩, hb⟩ | ⟨hv, i, d, T, M1, M2, v, ds, rfl, hs, hd, rfl, hb, hT⟩)
  · have HN : Hid (¬ (HasScope ss a ∧ HasScope ss b)) := Lib.hid (fun h => hv h.1)
    have HB := Lib.hid (HB0.out.trans (hb.mono HB0.out.size))
    have R1 := Lib.hid (R0.out.below hb R0.out.lt)
    have r1 := R1.out.cell (i := 0) (by rfl)
    have f1 := R1.out.frozen 0
    clear hv hb
    gi_wp2
    have q1 := (R1.out.set 0 (.int .i64 (-1))).cell (i := 0) (by rfl)
    refine ⟨_, by simp [results, Tryd.results52, go_sem, q1], ⟨_, rfl, .inl ⟨HN.out, rfl⟩, HB.out.setCell (by simp) _⟩⟩
  · have HB := Lib.hid (HB0.out.trans (hb.mono HB0.out.size))
    have R1 := Lib.hid (R0.out.below hb R0.out.lt)
    have HV := Lib.hid hv
    have HT := Lib.hid hT
    have HD := Lib.hid hd
    have HS := Lib.hid hs
    have C2 := Lib.hid ((callsIn_wide (n := 5)).2 (node_any hT.tree (hT.ne hv) (HE.out.at HB.out).scope b))
    clear hv hb hT hd hs
    gi_wp2_with fail
    refine ⟨trivial, ?_⟩
    gi_at_call 104
    refine C2.out.mono ?_
    rintro e w2 (⟨j, dj, rfl, hdj, rfl, hb2⟩ | ⟨hn, ⟨tp, p, rfl⟩, hb2⟩)
    rotate_left
    · have HN : Hid (¬ (HasScope ss (i : Int) ∧ HasScope ss b)) := Lib.hid (fun h => hn ⟨h.2.2.1, by rw [HT.out.hold.len]; exact h.2.2.2⟩)
      have HB2 := Lib.hid (HB.out.trans (hb2.mono HB.out.size))
      have R2 := Lib.hid (R1.out.below hb2 R1.out.lt)
      have r1 := R2.out.cell (i := 0) (by rfl)
      have f1 := R2.out.frozen 0
      clear hn hb2
      gi_wp2
      have q1 := (R2.out.set 0 (.int .i64 (-1))).cell (i := 0) (by rfl)
      refine ⟨_, by simp [results, Tryd.results52, go_sem, q1], ⟨_, rfl, .inl ⟨HN.out, rfl⟩, HB2.out.setCell (by simp) _⟩⟩
    · have HDJ := Lib.hid hdj
      have HBT := Lib.hid hb2
      have HJ : Hid (j < ss.length) := Lib.hid (by have := (List.getElem?_eq_some_iff.1 hdj).1; have := HT.out.hold.len; omega)
      obtain ⟨pi, hpi⟩ : ∃ f : Nat → Bool, (fun m => decide (m ∈ chainP ss i)) = f := ⟨_, rfl⟩
      obtain ⟨pj, hpj⟩ : ∃ f : Nat → Bool, (fun m => decide (m ∈ chainP ss j)) = f := ⟨_, rfl⟩
      obtain ⟨pc, hpc⟩ : ∃ f : Nat → Bool, (fun m => pi m && pj m) = f := ⟨_, rfl⟩
      have HPI := Lib.hid hpi
      have HPJ := Lib.hid hpj
      have HPC : Hid ((fun m => decide (m ∈ chainP ss i) && decide (m ∈ chainP ss j)) = pc) := Lib.hid (by rw [← hpc, ← hpi, ← hpj])
      have HPP := Lib.hid hpc
      have hC3 := ((callsIn_wide (n := 5)).2 (chainSet_any HV.out (HT.out.below hb2) HD.out))
      rw [hpi] at hC3
      have C3 := Lib.hid hC3
      clear hC3 hpi hpj hpc
      clear hdj hb2
      gi_wp2_with fail
      refine ⟨trivial, ?_⟩
      gi_at_call 83
      refine C3.out.mono ?_
      rintro e w3 ⟨rfl, hb3⟩
      have HB3 := Lib.hid (HBT.out.trans (hb3.mono HBT.out.size))
      have hC4 := ((callsIn_wide (n := 5)).2 (chainSet_any HV.out (HT.out.below HB3.out) HDJ.out))
      rw [HPJ.out] at hC4
      have C4 := Lib.hid hC4
      clear hC4
      clear hb3
      gi_wp2_with fail
      refine ⟨trivial, ?_⟩
      gi_at_call 83
      refine C4.out.mono ?_
      rintro e w4 ⟨rfl, hb4⟩
      have HB4 := Lib.hid (HB3.out.trans (hb4.mono HB3.out.size))
      have hC5 := ((callsIn_wide (n := 5)).2 (and_any pi pj w4))
      rw [HPP.out] at hC5
      have C5 := Lib.hid hC5
      clear hC5
      clear hb4
      gi_wp2_with fail
      refine ⟨trivial, ?_⟩
      gi_at_call 102
      refine C5.out.mono ?_
      rintro e w5 ⟨rfl, hb5⟩
      have HB5 := Lib.hid (HB4.out.trans (hb5.mono HB4.out.size))
      have HA := Lib.hid (Row.new w5 (setV pc) 106)
      have HB6 : Hid (Below w1.heap.size w1 (w5.alloc (.cells (setV pc).toArray 106))) := Lib.hid (HB5.out.alloc HB5.out.size _)
      clear hb5
      unfold setV at HA HB6 ⊢
      gi_wp2_with fail
      refine ⟨trivial, ?_⟩
      gi_at_call 101
      refine ((callsIn_wide (n := 5)).2 (outward_any _ _)).mono ?_
      rintro e w6 ⟨rfl, rfl⟩
      gi_wp2
      have hBx : Below w1.heap.size w1 ((w5.alloc (.cells #[.bool (pc 0), .bool (pc 1), .bool (pc 2), .bool (pc 3), .bool (pc 4), .bool (pc 5)] 106)).alloc (.cells #[.pointer (some ⟨d.blk, 0, none⟩)] 87)) := HB6.out.alloc HB6.out.size _
      have hsz5 : w1.heap.size ≤ w5.heap.size := HB5.out.size
      have bN := Boxed.new (w5.alloc (.cells #[.bool (pc 0), .bool (pc 1), .bool (pc 2), .bool (pc 3), .bool (pc 4), .bool (pc 5)] 106)) 87 (.pointer (some ⟨d.blk, 0, none⟩))
      rw [World.size_alloc] at bN
      have hAA := HA.out.alloc (.cells #[.pointer (some ⟨d.blk, 0, none⟩)] 87)
      refine wpIn_rangeFunc_ownH rfl (by omega) (gf := 145) (lb := #[.pointer (some ⟨w5.heap.size + 1, 0, none⟩)]) rfl trivial (enters_of Tryd.func145 (by kernel_rfl) rfl)
        (outward_stops 5 (by omega) (w5.heap.size + 1) _ T M1 M2 v ds ss w1 _ HT.out.tree HT.out.pars HV.out.climbs HT.out.hold.len i d HD.out (.of_below hBx) bN.cell) CellsKept.trans (fun W l o o' _ h1 h2 h3 => cellsKept_b (w := w1) W l o o' (by simp at *; omega) h1 h2 h3) (Below.refl _ _) (fun _ => rfl)
        (fun pre W => Row W w5.heap.size 106 (setV pc) ∧ NoneYet (commonP ss i j) pre ∧ CellsKept w1.heap.size w1 W ∧ Below w1.heap.size w1 W)
        (fun c _ W => c = .ret ∧ Row W (w.heap.size + 1) 3 [.int .i64 (commonP ss i j : Int)] ∧ Below w.heap.size w W)
        (OwnFrom.and (row_own _ _ _ fun _ => _) (OwnFrom.and (fun _ _ _ _ hs _ _ => hs) (OwnFrom.and (cellsKept_own1 (by simp; omega)) (ownFrom_below (Nat.le_refl _) (by simp; omega)))))
        (fun c => OwnFrom.and (fun _ _ _ _ hs _ _ => hs) (OwnFrom.and (row_own _ _ _ fun _ => _) (ownFrom_below (Nat.le_refl _) (by have := HB.out.size; simp; omega))))
        ⟨hAA, (by intro m hm; simp at hm), .of_below hBx, hBx⟩
        (fun x a' _ => a' = { tmps := #[.agg #[.slice oa ss.length cap], .int .i64 (i : Int), .int .i64 (j : Int), .pointer (some ⟨w.heap.size, 0, none⟩), undef, undef, .pointer (some ⟨w.heap.size + 1, 0, none⟩), .pointer (some ⟨T, 0, none⟩), .pointer (some ⟨d.blk, 0, none⟩), .nilIface, .pointer (some ⟨dj.blk, 0, none⟩), .pointer (some ⟨w5.heap.size, 0, none⟩), .pointer (some ⟨x.1.2.blk, 0, none⟩), .tuple #[.pointer (some ⟨T, 0, none⟩), .pointer (some ⟨d.blk, 0, none⟩), .nilIface], .agg #[.slice oa ss.length cap], .int .i64 (i : Int), .tuple #[.pointer (some ⟨T, 0, none⟩), .pointer (some ⟨d.blk, 0, none⟩), .nilIface], .pointer (some ⟨T, 0, none⟩), .pointer (some ⟨d.blk, 0, none⟩), .nilIface, .nilIface, .bool false, .tuple #[.pointer (some ⟨dj.blk, 0, none⟩), .nilIface], .pointer (some ⟨T, 0, none⟩), .int .i64 (j : Int), .tuple #[.pointer (some ⟨dj.blk, 0, none⟩), .nilIface], .pointer (some ⟨dj.blk, 0, none⟩), .nilIface, .nilIface, .bool false, .pointer (some ⟨d.blk, 0, none⟩), .agg #[.bool (pi 0), .bool (pi 1), .bool (pi 2), .bool (pi 3), .bool (pi 4), .bool (pi 5)], .pointer (some ⟨dj.blk, 0, none⟩), .agg #[.bool (pj 0), .bool (pj 1), .bool (pj 2), .bool (pj 3), .bool (pj 4), .bool (pj 5)], .agg #[.bool (pc 0), .bool (pc 1), .bool (pc 2), .bool (pc 3), .bool (pc 4), .bool (pc 5)], .pointer (some ⟨d.blk, 0, none⟩), .func (.func 145) #[] #[.pointer (some ⟨w5.heap.size + 1, 0, none⟩)], .pointer (some ⟨x.1.2.blk, 0, none⟩), undef, undef, undef, undef, undef, undef, undef, undef], defers := [] })
        (fun _ _ _ _ _ _ hs _ _ => hs)
        ?assign ?body ?done ?stop
      case assign =>
        rintro l pre x W K hi hK
        dsimp only [ndArgs]
        gi_wp2
        exact hK _ _ (KeepsFrom.refl _ _) (CellsKept.refl _ _) hi rfl
      case body =>
        rintro l pre x a' W hl _ ⟨hS, hN, hck, hbw⟩ rfl hlen
        obtain ⟨⟨k, c⟩, hci⟩ := x
        dsimp only
        have hcell := (((HT.out.tree.kept hck (Nat.le_refl _)).node k c hci).2.cell (i := 0) (v := .int .i64 (k : Int)) (by rfl))
        have hkl : k < ss.length := by have := (List.getElem?_eq_some_iff.1 hci).1; have := HT.out.hold.len; omega
        have hbd : Below w1.heap.size w1 W.drew := hbw.drew
        obtain ⟨pk, hpk⟩ : ∃ f : Nat → Bool, (fun m => decide (m ∈ chainP ss k)) = f := ⟨_, rfl⟩
        have hC6 := ((callsIn_wide (n := 3)).2 (chainSet_any HV.out (HT.out.below hbd) hci))
        rw [hpk] at hC6
        have C6 := Lib.hid hC6
        have hW := (set_eq_iff pk pc).trans (show (∀ q, q < 6 → pk q = pc q) ↔ k = commonP ss i j by rw [← hpk, ← HPC.out]; exact same_iff HV.out.climbs HV.out.count.2 HS.out HJ.out hkl)
        obtain ⟨r, hr⟩ : ∃ r, ((pk 0 == pc 0) && ((pk 1 == pc 1) && ((pk 2 == pc 2) && ((pk 3 == pc 3) && ((pk 4 == pc 4) && (pk 5 == pc 5)))))) = r := ⟨_, rfl⟩
        rw [hr] at hW
        have HW := Lib.hid hW
        have hgd := set_guard
        have hfn : Fence.wide.fn 83 := trivial
        have HSR := Lib.hid hS
        have HNY := Lib.hid hN
        have HBW := Lib.hid (And.intro hck hbw)
        have x0 := hS.cell (setV_get _ 0 (by omega))
        have x1 := hS.cell (setV_get _ 1 (by omega))
        have x2 := hS.cell (setV_get _ 2 (by omega))
        have x3 := hS.cell (setV_get _ 3 (by omega))
        have x4 := hS.cell (setV_get _ 4 (by omega))
        have x5 := hS.cell (setV_get _ 5 (by omega))
        have HKL := Lib.hid hkl
        have HCI := Lib.hid hci
        unfold setV at C6
        clear hS hN hck hbw hbd hW hkl hC6 hpk
        gi_wp2
        gi_region_with (gi_at_call 83; refine (CallsIn.inRound l C6.out).mono ?_; rintro e w7 ⟨rfl, hb7⟩; have R7 := Lib.hid (HSR.out.drew.below hb7 HSR.out.lt); have y0 := R7.out.cell (setV_get _ 0 (by omega)); have y1 := R7.out.cell (setV_get _ 1 (by omega)); have y2 := R7.out.cell (setV_get _ 2 (by omega)); have y3 := R7.out.cell (setV_get _ 3 (by omega)); have y4 := R7.out.cell (setV_get _ 4 (by omega)); have y5 := R7.out.cell (setV_get _ 5 (by omega)); have HB7 := Lib.hid (show Below W.heap.size W w7 from ((Below.refl _ _).drew).trans hb7); clear hb7)
        all_goals (cases r)
        all_goals have HNR := Lib.hid (And.intro (R1.out.below (HBW.out.2.trans (HB7.out.mono HBW.out.2.size)) R1.out.lt) (HBW.out.2.trans (HB7.out.mono HBW.out.2.size)))
        all_goals have HKF := Lib.hid ((keepsOthers_of_below HB7.out).from ((w5.alloc (.cells #[.bool (pc 0), .bool (pc 1), .bool (pc 2), .bool (pc 3), .bool (pc 4), .bool (pc 5)] 106)).alloc (.cells #[.pointer (some ⟨d.blk, 0, none⟩)] 87)).heap.size)
        all_goals have n7 := (((HT.out.below HNR.out.2).tree.node k c HCI.out).2.cell (i := 0) (v := .int .i64 (k : Int)) (by rfl))
        all_goals have f7 := HNR.out.1.frozen 0
        all_goals have r7 := HNR.out.1.cell (i := 0) (by rfl)
        all_goals have HSZ : Hid (w1.heap.size ≤ W.heap.size) := Lib.hid HBW.out.2.size
        all_goals first
          | (have HNC : Hid (k ≠ commonP ss i j) := Lib.hid (fun e => by have := HW.out.2 e; cases this)
             gi_wp2
             refine ⟨HKF.out, (CellsKept.of_below HB7.out).mono HSZ.out, R7.out, ?_, HBW.out.1.trans ((CellsKept.of_below HB7.out).mono HSZ.out), HNR.out.2⟩
             intro m hm
             rw [List.map_append, List.mem_append] at hm
             rcases hm with hm | hm
             · exact HNY.out m hm
             · simp [NdOf.num] at hm; rw [hm]; exact HNC.out)
          | (have HNC : Hid (k = commonP ss i j) := Lib.hid (HW.out.1 rfl)
             gi_wp2
             refine ⟨((keepsOthers_of_below HB7.out).trans (KeepsOthers.setCell _ _ _)).from _, rfl, by rw [← HNC.out]; exact HNR.out.1.set 0 _, (HB.out.trans (HNR.out.2.mono HB.out.size)).setCell (by simp) _⟩)
      case done =>
        rintro D xs W hD hS ⟨-, hN, -, -⟩ hK
        exfalso
        obtain ⟨h1, h2⟩ := common_mem HV.out.climbs HS.out HJ.out
        rw [← hS] at h1
        exact hN _ h1 rfl
      case stop =>
        rintro D c pre W hD hpre ⟨rfl, hR, hb⟩ hK
        have HD : Hid (w.heap.size + 1 < D) := Lib.hid (by have := R1.out.lt; simp at hD; omega)
        have HR := Lib.hid hR
        have HBB := Lib.hid hb
        clear hD hb hR
        gi_wp2
        refine ⟨by simp, .inl ⟨_, _, rfl, run_takeDeferred hK, ?_⟩⟩
        have q1 := (HR.out.same (World.putObj_heap_other (r := D) (o := .deferred none) (fun e => by have := HD.out; omega))).cell (i := 0) (by rfl)
        refine ⟨.int .i64 (commonP ss i j : Int), by simp [results, Tryd.results52, go_sem, q1], ⟨_, rfl, .inr ⟨⟨⟨HV.out, by omega, by have := HS.out; omega⟩, ⟨HV.out, by omega, by have := HJ.out; omega⟩⟩, by simp⟩, HBB.out.trans (belowK_b (w := w) (Nat.le_refl _) _ D _ _ (by have := HD.out; omega) hK rfl rfl)⟩⟩
end Go.Proofs.YtoijapbffhkbbaaDoor
