/-
  Sets of scopes as arrays of truths: impl's (*node).chainSet and scopeSet.and. Conditions: the tree lies in memory.
-/
import Derived.Test.YtoijapbffhkbbaaDoorWImplChain
import Derived.Deep.RegionWith
namespace Go.Proofs.YtoijapbffhkbbaaDoor
open Go Go.RowKit Go.Maps
attribute [local go_sem] Oper.semAt_some
/-- The cells of a set of scopes. -/
def setV (p : Nat → Bool) : List Value := [.bool (p 0), .bool (p 1), .bool (p 2), .bool (p 3), .bool (p 4), .bool (p 5)]
theorem setV_set (l : List Nat) (i : Nat) (hi : i < 6) : (setV fun j => decide (j ∈ l)).set i (.bool true) = setV fun j => decide (j ∈ l ++ [i]) := by
  rcases (show i = 0 ∨ i = 1 ∨ i = 2 ∨ i = 3 ∨ i = 4 ∨ i = 5 by omega) with rfl | rfl | rfl | rfl | rfl | rfl <;> simp [setV]
theorem setV_get (p : Nat → Bool) (i : Nat) (hi : i < 6) : (setV p)[i]? = some (.bool (p i)) := by
  rcases (show i = 0 ∨ i = 1 ∨ i = 2 ∨ i = 3 ∨ i = 4 ∨ i = 5 by omega) with rfl | rfl | rfl | rfl | rfl | rfl <;> simp [setV]
theorem Row.from_set {W : World} {g : Nat} {t : TypeId} {vs : List Value} (h : Row W g t vs) (B i : Nat) (x : Value) : KeepsFrom B W (W.setCell ⟨g, i, none⟩ x) := by
  have h1 := h.set i x
  have hsz : (W.setCell ⟨g, i, none⟩ x).heap.size = W.heap.size := by simp
  refine ⟨Nat.le_of_eq hsz.symm, fun k o hB hk ho => ?_⟩
  by_cases he : k = g
  · subst he
    unfold Row at h
    rw [h] at hk
    cases hk
    cases ho
  · rw [Below.heap_setCell _ _ _ _ (by simpa using he)]; exact hk
theorem Row.putObj {W : World} {g : Nat} {t : TypeId} {vs : List Value} (h : Row W g t vs) {l : Nat} {o : Obj} (o' : Obj) (hl : W.heap[l]? = some o) (ho : o.isCells = false) : Row (W.putObj l o') g t vs :=
  (CellsKept.putObj (n := W.heap.size) W l o o' hl ho).block g _ _ _ h.lt h
theorem heap_store6 (W : World) (g : Nat) (v0 v1 v2 v3 v4 v5 : Value) {D : Nat} {o : Obj} (hD : D ≠ g) (h : W.heap[D]? = some o) :
    ((((((W.setCell ⟨g, 0, none⟩ v0).setCell ⟨g, 1, none⟩ v1).setCell ⟨g, 2, none⟩ v2).setCell ⟨g, 3, none⟩ v3).setCell ⟨g, 4, none⟩ v4).setCell ⟨g, 5, none⟩ v5).heap[D]? = some o := by
  rw [Below.heap_setCell _ _ _ _ hD, Below.heap_setCell _ _ _ _ hD, Below.heap_setCell _ _ _ _ hD, Below.heap_setCell _ _ _ _ hD, Below.heap_setCell _ _ _ _ hD, Below.heap_setCell _ _ _ _ hD]
  exact h
theorem row_store6 {W : World} {g : Nat} {t : TypeId} {u0 u1 u2 u3 u4 u5 : Value} (v0 v1 v2 v3 v4 v5 : Value) (h : Row W g t [u0, u1, u2, u3, u4, u5]) :
    Row ((((((W.setCell ⟨g, 0, none⟩ v0).setCell ⟨g, 1, none⟩ v1).setCell ⟨g, 2, none⟩ v2).setCell ⟨g, 3, none⟩ v3).setCell ⟨g, 4, none⟩ v4).setCell ⟨g, 5, none⟩ v5) g t [v0, v1, v2, v3, v4, v5] :=
  (((((h.set 0 v0).set 1 v1).set 2 v2).set 3 v3).set 4 v4).set 5 v5
theorem below_store6 {N : Nat} {w W : World} {g : Nat} (v0 v1 v2 v3 v4 v5 : Value) (hg : N ≤ g) (h : Below N w W) :
    Below N w ((((((W.setCell ⟨g, 0, none⟩ v0).setCell ⟨g, 1, none⟩ v1).setCell ⟨g, 2, none⟩ v2).setCell ⟨g, 3, none⟩ v3).setCell ⟨g, 4, none⟩ v4).setCell ⟨g, 5, none⟩ v5) :=
  (((((h.setCell hg v0).setCell hg v1).setCell hg v2).setCell hg v3).setCell hg v4).setCell hg v5
set_option maxRecDepth 100000 in
set_option maxHeartbeats 4000000 in
theorem chainSet_any {ss : List Sc} (hv : Valid ss) {w : World} {B T M1 M2 : Nat} {v : Value} {ds : List Nd} (hT : TreeIs w B T M1 M2 v ds ss) {s : Nat} {d : Nd} (hd : ds[s]? = some d) :
    Calls Tryd.prog 83 #[.pointer (some ⟨d.blk, 0, none⟩)] w fun e w' => e = .returned (.agg (setV fun i => decide (i ∈ chainP ss s)).toArray) ∧ Below w.heap.size w w' := by
  have HT := Lib.hid hT
  have HD := Lib.hid hd
  have HC := Lib.hid hv.climbs
  have H6 := Lib.hid hv.count.2
  have HS : Hid (s < ss.length) := Lib.hid (by have := (List.getElem?_eq_some_iff.1 hd).1; have := hT.hold.len; omega)
  clear hv hT hd
  refine (callsIn_wide (n := 6)).1 ?_
  refine callsIn_of_wp_marks Tryd.func83 rfl trivial ?_ rfl
  simp only [Tryd.ntmps83, List.size_toArray, List.length_cons, List.length_nil, Nat.reduceAdd, Nat.reduceSub, Array.replicate_succ, Array.replicate_zero, List.push_toArray, List.append_toArray, List.nil_append, List.cons_append]
  gi_wp2_with fail
  refine ⟨trivial, ?_⟩
  gi_at_call 101
  refine ((callsIn_wide (n := 5)).2 (outward_any _ _)).mono ?_
  rintro e w2 ⟨rfl, rfl⟩
  gi_wp2
  have hW2 : Below w.heap.size w (((w.alloc (.cells #[.bool false, .bool false, .bool false, .bool false, .bool false, .bool false] 106)).alloc (.cells #[.bool false, .bool false, .bool false, .bool false, .bool false, .bool false] 106)).alloc (.cells #[.pointer (some ⟨d.blk, 0, none⟩)] 87)) := (((Below.refl _ _).alloc (Nat.le_refl _) _).alloc (by simp) _).alloc (by simp; omega) _
  have hA0 := Row.new w [.bool false, .bool false, .bool false, .bool false, .bool false, .bool false] 106
  have hA1 := Row.new (w.alloc (.cells #[.bool false, .bool false, .bool false, .bool false, .bool false, .bool false] 106)) [.bool false, .bool false, .bool false, .bool false, .bool false, .bool false] 106
  have bN := Boxed.new ((w.alloc (.cells #[.bool false, .bool false, .bool false, .bool false, .bool false, .bool false] 106)).alloc (.cells #[.bool false, .bool false, .bool false, .bool false, .bool false, .bool false] 106)) 87 (.pointer (some ⟨d.blk, 0, none⟩))
  rw [World.size_alloc] at hA1
  rw [World.size_alloc, World.size_alloc] at bN
  have hA0' := (hA0.alloc (.cells #[.bool false, .bool false, .bool false, .bool false, .bool false, .bool false] 106)).alloc (.cells #[.pointer (some ⟨d.blk, 0, none⟩)] 87)
  have hA1' := hA1.alloc (.cells #[.pointer (some ⟨d.blk, 0, none⟩)] 87)
  refine wpIn_rangeFunc_ownH rfl (by omega) (gf := 145) (lb := #[.pointer (some ⟨w.heap.size + 1 + 1, 0, none⟩)]) rfl trivial (enters_of Tryd.func145 (by kernel_rfl) rfl)
    (outward_stops 5 (by omega) (w.heap.size + 1 + 1) B T M1 M2 v ds ss w _ HT.out.tree HT.out.pars HC.out HT.out.hold.len s d HD.out (.of_below hW2) bN.cell) CellsKept.trans (fun W l o o' _ h1 h2 h3 => cellsKept_b (w := w) W l o o' (by simp at *; omega) h1 h2 h3) (Below.refl _ _) (fun _ => rfl)
    (fun pre W => Row W (w.heap.size + 1) 106 (setV fun j => decide (j ∈ pre.map NdOf.num)) ∧ Row W w.heap.size 106 [.bool false, .bool false, .bool false, .bool false, .bool false, .bool false] ∧ CellsKept w.heap.size w W ∧ Below w.heap.size w W)
    (fun _ _ _ => False)
    (OwnFrom.and (row_own _ _ _ fun pre : List (NdOf ds) => setV fun j => decide (j ∈ pre.map NdOf.num)) (OwnFrom.and (row_own _ _ _ fun _ => _) (OwnFrom.and (cellsKept_own w) (ownFrom_below (Nat.le_refl _) (by simp; omega)))))
    (fun _ _ _ _ _ hs _ _ => hs)
    ⟨by simpa [setV] using hA1', hA0', .of_below hW2, hW2⟩
    (fun x a' _ => a' = { tmps := #[.pointer (some ⟨d.blk, 0, none⟩), undef, .pointer (some ⟨w.heap.size, 0, none⟩), .pointer (some ⟨w.heap.size + 1, 0, none⟩), .pointer (some ⟨x.1.2.blk, 0, none⟩), .pointer (some ⟨d.blk, 0, none⟩),
      .func (.func 145) #[] #[.pointer (some ⟨w.heap.size + 1 + 1, 0, none⟩)], .pointer (some ⟨x.1.2.blk, 0, none⟩), undef, undef, undef, undef, undef, undef], defers := [] })
    (fun _ _ _ _ _ _ hs _ _ => hs)
    ?assign ?body ?done ?stop
  case assign =>
    rintro l pre x W K hi hK
    dsimp only [ndArgs]
    gi_wp2
    exact hK _ _ (KeepsFrom.refl _ _) (CellsKept.refl _ _) hi rfl
  case body =>
    rintro l pre x a' W hl _ ⟨hS, hR, hck, hbw⟩ rfl hlen
    obtain ⟨⟨i, c⟩, hci⟩ := x
    dsimp only
    have hcell := (((HT.out.tree.kept hck (Nat.le_refl _)).node i c hci).2.cell (i := 0) (v := .int .i64 (i : Int)) (by rfl))
    have hi6 : i < 6 := by have := (List.getElem?_eq_some_iff.1 hci).1; have := HT.out.hold.len; have := H6.out; omega
    have hs0 := hS.cell (setV_get _ i hi6)
    have hf0 := hS.frozen i
    have HS1 : Hid (Row (W.setCell ⟨w.heap.size + 1, i, none⟩ (.bool true)) (w.heap.size + 1) 106 (setV fun j => decide (j ∈ (pre ++ [(⟨(i, c), hci⟩ : NdOf ds)]).map NdOf.num))) := Lib.hid (by
      have h1 := hS.set i (.bool true)
      rw [setV_set _ i hi6] at h1
      rw [List.map_append]
      exact h1)
    have HR1 := Lib.hid (hR.other (a := ⟨w.heap.size + 1, i, none⟩) (by simp) (.bool true))
    have HB1 : Hid (Below w.heap.size W (W.setCell ⟨w.heap.size + 1, i, none⟩ (.bool true))) := Lib.hid ((Below.refl _ _).setCell (by simp) _)
    have HKF := Lib.hid (hS.from_set (((w.alloc (.cells #[.bool false, .bool false, .bool false, .bool false, .bool false, .bool false] 106)).alloc (.cells #[.bool false, .bool false, .bool false, .bool false, .bool false, .bool false] 106)).alloc (.cells #[.pointer (some ⟨d.blk, 0, none⟩)] 87)).heap.size i (.bool true))
    have HBW := Lib.hid (And.intro hck hbw)
    clear hS hR hck hbw
    gi_wp2
    exact ⟨HKF.out, .of_below HB1.out, HS1.out, HR1.out, HBW.out.1.trans (.of_below HB1.out), HBW.out.2.trans HB1.out⟩
  case done =>
    rintro D xs W hD hS ⟨hA, hR, hck, hbw⟩ hK
    have a0 := hA.cell (setV_get _ 0 (by omega))
    have a1 := hA.cell (setV_get _ 1 (by omega))
    have a2 := hA.cell (setV_get _ 2 (by omega))
    have a3 := hA.cell (setV_get _ 3 (by omega))
    have a4 := hA.cell (setV_get _ 4 (by omega))
    have a5 := hA.cell (setV_get _ 5 (by omega))
    have r0 : ∀ k, W.frozen? ⟨w.heap.size, k, none⟩ = false := fun k => hR.frozen k
    have q0 := hR.cell (i := 0) (by rfl)
    have q1 := hR.cell (i := 1) (by rfl)
    have q2 := hR.cell (i := 2) (by rfl)
    have q3 := hR.cell (i := 3) (by rfl)
    have q4 := hR.cell (i := 4) (by rfl)
    have q5 := hR.cell (i := 5) (by rfl)
    have hD0 : D ≠ w.heap.size := by simp at hD; omega
    have HK6 := Lib.hid (heap_store6 W w.heap.size (.bool (decide (0 ∈ List.map NdOf.num xs))) (.bool (decide (1 ∈ List.map NdOf.num xs))) (.bool (decide (2 ∈ List.map NdOf.num xs))) (.bool (decide (3 ∈ List.map NdOf.num xs))) (.bool (decide (4 ∈ List.map NdOf.num xs))) (.bool (decide (5 ∈ List.map NdOf.num xs))) hD0 hK)
    have HR6 := Lib.hid (row_store6 (.bool (decide (0 ∈ List.map NdOf.num xs))) (.bool (decide (1 ∈ List.map NdOf.num xs))) (.bool (decide (2 ∈ List.map NdOf.num xs))) (.bool (decide (3 ∈ List.map NdOf.num xs))) (.bool (decide (4 ∈ List.map NdOf.num xs))) (.bool (decide (5 ∈ List.map NdOf.num xs))) hR)
    have HB6 := Lib.hid (below_store6 (.bool (decide (0 ∈ List.map NdOf.num xs))) (.bool (decide (1 ∈ List.map NdOf.num xs))) (.bool (decide (2 ∈ List.map NdOf.num xs))) (.bool (decide (3 ∈ List.map NdOf.num xs))) (.bool (decide (4 ∈ List.map NdOf.num xs))) (.bool (decide (5 ∈ List.map NdOf.num xs))) (Nat.le_refl w.heap.size) hbw)
    have HS2 := Lib.hid hS
    have HD := Lib.hid hD
    clear hS hA hR hck hbw hK hD hD0
    gi_wp2
    generalize ((((((W.setCell _ _).setCell _ _).setCell _ _).setCell _ _).setCell _ _).setCell _ _) = W6 at HK6 HR6 HB6 ⊢
    refine ⟨by simp, .inl ⟨_, _, rfl, run_takeDeferred HK6.out, ?_⟩⟩
    refine ⟨_, results_cell_row rfl _ _ w.heap.size 106 _ (0, 0) _ rfl (HR6.out.putObj _ HK6.out rfl) Tryd.underlying106 rfl (by kernel_rfl), ?_, HB6.out.trans (belowK_b (w := w) (Nat.le_refl _) W6 D _ _ (by have := HD.out; simp at this; omega) HK6.out rfl rfl)⟩
    simp only [setV, HS2.out]
  case stop =>
    rintro D c pre W _ _ h _
    exact h.elim
theorem setV_put (f : Nat → Bool) (k : Nat) (b : Bool) (hk : k < 6) : (setV f).set k (.bool b) = setV fun i => if i = k then b else f i := by
  rcases (show k = 0 ∨ k = 1 ∨ k = 2 ∨ k = 3 ∨ k = 4 ∨ k = 5 by omega) with rfl | rfl | rfl | rfl | rfl | rfl <;> simp [setV]
theorem setV_step (p q : Nat → Bool) (k : Nat) (b : Bool) (hk : k < 6) (hb : b = (p k && q k)) : (setV fun i => if i < k then p i && q i else p i).set k (.bool b) = setV fun i => if i < k + 1 then p i && q i else p i := by
  rw [setV_put _ _ _ hk]
  congr 1
  funext i
  by_cases h : i = k
  · subst h; simp [hb]
  · rw [if_neg h]
    by_cases h2 : i < k
    · rw [if_pos h2, if_pos (by omega)]
    · rw [if_neg h2, if_neg (by omega)]
set_option maxRecDepth 100000 in
set_option maxHeartbeats 4000000 in
theorem and_any (p q : Nat → Bool) (w : World) :
    Calls Tryd.prog 102 #[.agg (setV p).toArray, .agg (setV q).toArray] w fun e w' => e = .returned (.agg (setV fun i => p i && q i).toArray) ∧ Below w.heap.size w w' := by
  have hA := Row.new w (setV p) 106
  have hB := Row.new (w.alloc (.cells (setV p).toArray 106)) (setV q) 106
  have hC := Row.new ((w.alloc (.cells (setV p).toArray 106)).alloc (.cells (setV q).toArray 106)) [.bool false, .bool false, .bool false, .bool false, .bool false, .bool false] 106
  rw [World.size_alloc] at hB
  rw [World.size_alloc, World.size_alloc] at hC
  have HA := Lib.hid ((hA.alloc (.cells (setV q).toArray 106)).alloc (.cells #[.bool false, .bool false, .bool false, .bool false, .bool false, .bool false] 106))
  have HB := Lib.hid (hB.alloc (.cells #[.bool false, .bool false, .bool false, .bool false, .bool false, .bool false] 106))
  have HC := Lib.hid hC
  have HW : Hid (Below w.heap.size w (((w.alloc (.cells (setV p).toArray 106)).alloc (.cells (setV q).toArray 106)).alloc (.cells #[.bool false, .bool false, .bool false, .bool false, .bool false, .bool false] 106))) := Lib.hid ((((Below.refl _ _).alloc (Nat.le_refl _) _).alloc (by simp) _).alloc (by simp; omega) _)
  clear hA hB hC
  unfold setV at HA HB HC HW ⊢
  go_enter Tryd.func102, Tryd.ntmps102
  go_wp2
  go_loopw [6] (fun i wr => ∃ k : Nat, i = .int .i64 k ∧ k ≤ 6 ∧ Row wr w.heap.size 106 (setV fun i => if i < k then p i && q i else p i) ∧ Row wr (w.heap.size + 1) 106 (setV q) ∧ Row wr (w.heap.size + 2) 106 [.bool false, .bool false, .bool false, .bool false, .bool false, .bool false] ∧ Below w.heap.size w wr) (fun i _ => 6 - (intOf i).toNat)
  case atStart => exact ⟨0, rfl, by omega, by simpa [setV] using HA.out, by simpa [setV] using HB.out, by simpa using HC.out, by simpa [setV] using HW.out⟩
  case round =>
    obtain ⟨k, rfl, hk, hA, hB, hC, hb⟩ := hrel
    by_cases hlt : k < 6
    · have a0 := hA.cell (setV_get _ k hlt)
      simp only [Nat.lt_irrefl, if_false] at a0
      have b0 := hB.cell (setV_get _ k hlt)
      have f0 := hA.frozen k
      have HST := Lib.hid (fun b h => setV_step p q k b hlt h)
      have HP := Lib.hid (fun b => hA.set k (.bool b))
      have HQ := Lib.hid (fun b => And.intro (hB.other (a := ⟨w.heap.size, k, none⟩) (by simp) (.bool b)) (And.intro (hC.other (a := ⟨w.heap.size, k, none⟩) (by simp) (.bool b)) (hb.setCell (p := ⟨w.heap.size, k, none⟩) (Nat.le_refl _) (.bool b))))
      clear hA hB hC hb
      cases hp : p k with
      | true =>
        rw [hp] at a0
        generalize hq : q k = b at b0
        have HE : Hid (b = (p k && q k)) := Lib.hid (by rw [hp, hq]; rfl)
        clear hp hq
        go_wp2
        go_roundw
        case rel => exact ⟨k + 1, by go_num, by omega, by rw [← HST.out b HE.out]; exact HP.out b, (HQ.out b).1, (HQ.out b).2.1, (HQ.out b).2.2⟩
        case measure => simp only [intOf]; omega
      | false =>
        rw [hp] at a0
        have HE : Hid (false = (p k && q k)) := Lib.hid (by rw [hp]; rfl)
        clear hp
        go_wp2
        go_roundw
        case rel => exact ⟨k + 1, by go_num, by omega, by rw [← HST.out false HE.out]; exact HP.out false, (HQ.out false).1, (HQ.out false).2.1, (HQ.out false).2.2⟩
        case measure => simp only [intOf]; omega
    · obtain rfl : k = 6 := by omega
      have hA' : Row wr w.heap.size 106 [.bool (p 0 && q 0), .bool (p 1 && q 1), .bool (p 2 && q 2), .bool (p 3 && q 3), .bool (p 4 && q 4), .bool (p 5 && q 5)] := by simpa [setV] using hA
      have a0 := hA'.cell (i := 0) (by rfl)
      have a1 := hA'.cell (i := 1) (by rfl)
      have a2 := hA'.cell (i := 2) (by rfl)
      have a3 := hA'.cell (i := 3) (by rfl)
      have a4 := hA'.cell (i := 4) (by rfl)
      have a5 := hA'.cell (i := 5) (by rfl)
      have r0 : ∀ k, wr.frozen? ⟨w.heap.size + 2, k, none⟩ = false := fun k => hC.frozen k
      have q0 := hC.cell (i := 0) (by rfl)
      have q1 := hC.cell (i := 1) (by rfl)
      have q2 := hC.cell (i := 2) (by rfl)
      have q3 := hC.cell (i := 3) (by rfl)
      have q4 := hC.cell (i := 4) (by rfl)
      have q5 := hC.cell (i := 5) (by rfl)
      have HR6 := Lib.hid (row_store6 (.bool (p 0 && q 0)) (.bool (p 1 && q 1)) (.bool (p 2 && q 2)) (.bool (p 3 && q 3)) (.bool (p 4 && q 4)) (.bool (p 5 && q 5)) hC)
      have HB6 := Lib.hid (below_store6 (g := w.heap.size + 2) (.bool (p 0 && q 0)) (.bool (p 1 && q 1)) (.bool (p 2 && q 2)) (.bool (p 3 && q 3)) (.bool (p 4 && q 4)) (.bool (p 5 && q 5)) (by omega : w.heap.size ≤ w.heap.size + 2) hb)
      clear hA hA' hB hC hb
      obtain ⟨z0, e0⟩ : ∃ z, (p 0 && q 0) = z := ⟨_, rfl⟩
      obtain ⟨z1, e1⟩ : ∃ z, (p 1 && q 1) = z := ⟨_, rfl⟩
      obtain ⟨z2, e2⟩ : ∃ z, (p 2 && q 2) = z := ⟨_, rfl⟩
      obtain ⟨z3, e3⟩ : ∃ z, (p 3 && q 3) = z := ⟨_, rfl⟩
      obtain ⟨z4, e4⟩ : ∃ z, (p 4 && q 4) = z := ⟨_, rfl⟩
      obtain ⟨z5, e5⟩ : ∃ z, (p 5 && q 5) = z := ⟨_, rfl⟩
      rw [e0] at a0
      rw [e1] at a1
      rw [e2] at a2
      rw [e3] at a3
      rw [e4] at a4
      rw [e5] at a5
      rw [e0, e1, e2, e3, e4, e5] at HR6 HB6
      have HZ : Hid ((.returned (.agg #[.bool (p 0 && q 0), .bool (p 1 && q 1), .bool (p 2 && q 2), .bool (p 3 && q 3), .bool (p 4 && q 4), .bool (p 5 && q 5)]) : Ending) = .returned (.agg #[.bool z0, .bool z1, .bool z2, .bool z3, .bool z4, .bool z5])) := Lib.hid (by rw [e0, e1, e2, e3, e4, e5])
      clear e0 e1 e2 e3 e4 e5
      go_wp2
      generalize ((((((wr.setCell _ _).setCell _ _).setCell _ _).setCell _ _).setCell _ _).setCell _ _) = W6 at HR6 HB6 ⊢
      refine bodyPost_ret (results_cell_row rfl _ _ (w.heap.size + 2) 106 _ (0, 0) _ rfl HR6.out Tryd.underlying106 rfl (by kernel_rfl)) rfl ⟨HZ.out.symm, HB6.out⟩
end Go.Proofs.YtoijapbffhkbbaaDoor
