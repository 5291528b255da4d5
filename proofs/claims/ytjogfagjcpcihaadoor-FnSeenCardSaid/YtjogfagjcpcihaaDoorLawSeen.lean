/-
  The walk of impl's PlacesOf. Conditions: the argument's memory holds the graph; the package-level errors hold errors. Sets of scopes as arrays of truths: impl's (*node).chainSet and scopeSet.and. Conditions: the tree lies in memory. Sets of places as arrays of truths: impl's placeSet.has and placeSet.add, and the walk of (*lookup).seen. Conditions: the lookup lies in memory. The walks of impl's SeenFrom and HiddenFrom. Conditions: the argument's memory holds the graph; the package-level errors hold errors. The walks of HiddenFrom, the given one's and impl's. Conditions: the argument's memory holds the graph; the package-level errors hold errors. The walk of the laws' sgIn: whether a place is in a list. Condition: the list's memory holds it. Plain facts. The walks of the laws' sgPlaces and sgSame. Condition: the arguments' memory holds the lists. A law's argument of bytes opened. The walk of the law FnSeen: at every argument it returns true, and only new memory is written. Conditions: the argument's memory holds bytes; the package-level errors hold errors.
-/
import Derived.Test.YtjogfagjcpcihaaDoorWPlsT
import Derived.Test.YtjogfagjcpcihaaDoorJA
import Derived.Test.YtjogfagjcpcihaaDoorJB
import Derived.Deep.RegionWith
import Derived.Test.YtjogfagjcpcihaaDoorWPickI
import Derived.Laws.Rows
import Derived.Test.YtjogfagjcpcihaaDoorJE
import Derived.Test.YtjogfagjcpcihaaDoorJD
import Derived.Test.YtjogfagjcpcihaaDoorWDrawAll
import Derived.ChangeSame
import Derived.ProofKit
import Derived.OpenShut
import Derived.Test.YtjogfagjcpcihaaDoorWImplLook
import Derived.Test.YtjogfagjcpcihaaDoorWDraws2
import Derived.Lib.QuietBelow
import Derived.BigQuiet
namespace Go.Proofs.YtjogfagjcpcihaaDoor
open Go Go.RowKit Go.Maps
attribute [local go_sem] Oper.semAt_some
/-- The cells of a set of scopes. -/
def setV (p : Nat → Bool) : List Value := [.bool (p 0), .bool (p 1), .bool (p 2), .bool (p 3), .bool (p 4), .bool (p 5)]
theorem setV_set (l : List Nat) (i : Nat) (hi : i < 6) : (setV fun j => decide (j ∈ l)).set i (.bool true) = setV fun j => decide (j ∈ l ++ [i]) := by
  rcases (show i = 0 ∨ i = 1 ∨ i = 2 ∨ i = 3 ∨ i = 4 ∨ i = 5 by omega) with rfl | rfl | rfl | rfl | rfl | rfl <;> simp [setV]
theorem setV_get (p : Nat → Bool) (i : Nat) (hi : i < 6) : (setV p)[i]? = some (.bool (p i)) := by
  rcases (show i = 0 ∨ i = 1 ∨ i = 2 ∨ i = 3 ∨ i = 4 ∨ i = 5 by omega) with rfl | rfl | rfl | rfl | rfl | rfl <;> simp [setV]
theorem Row.from_set {W : World} {g : Nat} {t : TypeId} {vs : List Value} (h : Row W g t vs) (B i : Nat) (x : Value) : KeepsFrom B W (W.setCell ⟨g, i, none⟩ x) := by
  have h1 := h.set i x
  have hsz : (W.setCell ⟨g, i, none⟩ x).heap.size = W.heap.size := by simp
  refine ⟨Nat.le_of_eq hsz.symm, fun k o hB hk ho => ?_⟩
  by_cases he : k = g
  · subst he
    unfold Row at h
    rw [h] at hk
    cases hk
    cases ho
  · rw [Below.heap_setCell _ _ _ _ (by simpa using he)]; exact hk
theorem Row.putObj {W : World} {g : Nat} {t : TypeId} {vs : List Value} (h : Row W g t vs) {l : Nat} {o : Obj} (o' : Obj) (hl : W.heap[l]? = some o) (ho : o.isCells = false) : Row (W.putObj l o') g t vs :=
  (CellsKept.putObj (n := W.heap.size) W l o o' hl ho).block g _ _ _ h.lt h
theorem heap_store6 (W : World) (g : Nat) (v0 v1 v2 v3 v4 v5 : Value) {D : Nat} {o : Obj} (hD : D ≠ g) (h : W.heap[D]? = some o) :
    ((((((W.setCell ⟨g, 0, none⟩ v0).setCell ⟨g, 1, none⟩ v1).setCell ⟨g, 2, none⟩ v2).setCell ⟨g, 3, none⟩ v3).setCell ⟨g, 4, none⟩ v4).setCell ⟨g, 5, none⟩ v5).heap[D]? = some o := by
  rw [Below.heap_setCell _ _ _ _ hD, Below.heap_setCell _ _ _ _ hD, Below.heap_setCell _ _ _ _ hD, Below.heap_setCell _ _ _ _ hD, Below.heap_setCell _ _ _ _ hD, Below.heap_setCell _ _ _ _ hD]
  exact h
theorem row_store6 {W : World} {g : Nat} {t : TypeId} {u0 u1 u2 u3 u4 u5 : Value} (v0 v1 v2 v3 v4 v5 : Value) (h : Row W g t [u0, u1, u2, u3, u4, u5]) :
    Row ((((((W.setCell ⟨g, 0, none⟩ v0).setCell ⟨g, 1, none⟩ v1).setCell ⟨g, 2, none⟩ v2).setCell ⟨g, 3, none⟩ v3).setCell ⟨g, 4, none⟩ v4).setCell ⟨g, 5, none⟩ v5) g t [v0, v1, v2, v3, v4, v5] :=
  (((((h.set 0 v0).set 1 v1).set 2 v2).set 3 v3).set 4 v4).set 5 v5
theorem below_store6 {N : Nat} {w W : World} {g : Nat} (v0 v1 v2 v3 v4 v5 : Value) (hg : N ≤ g) (h : Below N w W) :
    Below N w ((((((W.setCell ⟨g, 0, none⟩ v0).setCell ⟨g, 1, none⟩ v1).setCell ⟨g, 2, none⟩ v2).setCell ⟨g, 3, none⟩ v3).setCell ⟨g, 4, none⟩ v4).setCell ⟨g, 5, none⟩ v5) :=
  (((((h.setCell hg v0).setCell hg v1).setCell hg v2).setCell hg v3).setCell hg v4).setCell hg v5
set_option maxRecDepth 100000 in
set_option maxHeartbeats 4000000 in
theorem chainSet_any {ss : List Sc} (hv : Valid ss) {w : World} {B T M1 M2 : Nat} {v : Value} {ds : List Nd} (hT : TreeIs w B T M1 M2 v ds ss) {s : Nat} {d : Nd} (hd : ds[s]? = some d) :
    Calls Tryd.prog 67 #[.pointer (some ⟨d.blk, 0, none⟩)] w fun e w' => e = .returned (.agg (setV fun i => decide (i ∈ chainP ss s)).toArray) ∧ Below w.heap.size w w' := by
  have HT := Lib.hid hT
  have HD := Lib.hid hd
  have HC := Lib.hid hv.climbs
  have H6 := Lib.hid hv.count.2
  have HS : Hid (s < ss.length) := Lib.hid (by have := (List.getElem?_eq_some_iff.1 hd).1; have := hT.hold.len; omega)
  clear hv hT hd
  refine (callsIn_wide (n := 6)).1 ?_
  refine callsIn_of_wp_marks Tryd.func67 rfl trivial ?_ rfl
  simp only [Tryd.ntmps67, List.size_toArray, List.length_cons, List.length_nil, Nat.reduceAdd, Nat.reduceSub, Array.replicate_succ, Array.replicate_zero, List.push_toArray, List.append_toArray, List.nil_append, List.cons_append]
  gi_wp2_with fail
  refine ⟨trivial, ?_⟩
  gi_at_call 60
  refine ((callsIn_wide (n := 5)).2 (outward_any _ _)).mono ?_
  rintro e w2 ⟨rfl, rfl⟩
  gi_wp2
  have hW2 : Below w.heap.size w (((w.alloc (.cells #[.bool false, .bool false, .bool false, .bool false, .bool false, .bool false] 110)).alloc (.cells #[.bool false, .bool false, .bool false, .bool false, .bool false, .bool false] 110)).alloc (.cells #[.pointer (some ⟨d.blk, 0, none⟩)] 78)) := (((Below.refl _ _).alloc (Nat.le_refl _) _).alloc (by simp) _).alloc (by simp; omega) _
  have hA0 := Row.new w [.bool false, .bool false, .bool false, .bool false, .bool false, .bool false] 110
  have hA1 := Row.new (w.alloc (.cells #[.bool false, .bool false, .bool false, .bool false, .bool false, .bool false] 110)) [.bool false, .bool false, .bool false, .bool false, .bool false, .bool false] 110
  have bN := Boxed.new ((w.alloc (.cells #[.bool false, .bool false, .bool false, .bool false, .bool false, .bool false] 110)).alloc (.cells #[.bool false, .bool false, .bool false, .bool false, .bool false, .bool false] 110)) 78 (.pointer (some ⟨d.blk, 0, none⟩))
  rw [World.size_alloc] at hA1
  rw [World.size_alloc, World.size_alloc] at bN
  have hA0' := (hA0.alloc (.cells #[.bool false, .bool false, .bool false, .bool false, .bool false, .bool false] 110)).alloc (.cells #[.pointer (some ⟨d.blk, 0, none⟩)] 78)
  have hA1' := hA1.alloc (.cells #[.pointer (some ⟨d.blk, 0, none⟩)] 78)
  refine wpIn_rangeFunc_ownH rfl (by omega) (gf := 96) (lb := #[.pointer (some ⟨w.heap.size + 1 + 1, 0, none⟩)]) rfl trivial (enters_of Tryd.func96 (by kernel_rfl) rfl)
    (outward_stops 5 (by omega) (w.heap.size + 1 + 1) B T M1 M2 v ds ss w _ HT.out.tree HT.out.pars HC.out HT.out.hold.len s d HD.out (.of_below hW2) bN.cell) CellsKept.trans (fun W l o o' _ h1 h2 h3 => cellsKept_b (w := w) W l o o' (by simp at *; omega) h1 h2 h3) (Below.refl _ _) (fun _ => rfl)
    (fun pre W => Row W (w.heap.size + 1) 110 (setV fun j => decide (j ∈ pre.map NdOf.num)) ∧ Row W w.heap.size 110 [.bool false, .bool false, .bool false, .bool false, .bool false, .bool false] ∧ CellsKept w.heap.size w W ∧ Below w.heap.size w W)
    (fun _ _ _ => False)
    (OwnFrom.and (row_own _ _ _ fun pre : List (NdOf ds) => setV fun j => decide (j ∈ pre.map NdOf.num)) (OwnFrom.and (row_own _ _ _ fun _ => _) (OwnFrom.and (cellsKept_own w) (ownFrom_below (Nat.le_refl _) (by simp; omega)))))
    (fun _ _ _ _ _ hs _ _ => hs)
    ⟨by simpa [setV] using hA1', hA0', .of_below hW2, hW2⟩
    (fun x a' _ => a' = { tmps := #[.pointer (some ⟨d.blk, 0, none⟩), undef, .pointer (some ⟨w.heap.size, 0, none⟩), .pointer (some ⟨w.heap.size + 1, 0, none⟩), .pointer (some ⟨x.1.2.blk, 0, none⟩), .pointer (some ⟨d.blk, 0, none⟩),
      .func (.func 96) #[] #[.pointer (some ⟨w.heap.size + 1 + 1, 0, none⟩)], .pointer (some ⟨x.1.2.blk, 0, none⟩), undef, undef, undef, undef, undef, undef], defers := [] })
    (fun _ _ _ _ _ _ hs _ _ => hs)
    ?assign ?body ?done ?stop
  case assign =>
    rintro l pre x W K hi hK
    dsimp only [ndArgs]
    gi_wp2
    exact hK _ _ (KeepsFrom.refl _ _) (CellsKept.refl _ _) hi rfl
  case body =>
    rintro l pre x a' W hl _ ⟨hS, hR, hck, hbw⟩ rfl hlen
    obtain ⟨⟨i, c⟩, hci⟩ := x
    dsimp only
    have hcell := (((HT.out.tree.kept hck (Nat.le_refl _)).node i c hci).2.cell (i := 0) (v := .int .i64 (i : Int)) (by rfl))
    have hi6 : i < 6 := by have := (List.getElem?_eq_some_iff.1 hci).1; have := HT.out.hold.len; have := H6.out; omega
    have hs0 := hS.cell (setV_get _ i hi6)
    have hf0 := hS.frozen i
    have HS1 : Hid (Row (W.setCell ⟨w.heap.size + 1, i, none⟩ (.bool true)) (w.heap.size + 1) 110 (setV fun j => decide (j ∈ (pre ++ [(⟨(i, c), hci⟩ : NdOf ds)]).map NdOf.num))) := Lib.hid (by
      have h1 := hS.set i (.bool true)
      rw [setV_set _ i hi6] at h1
      rw [List.map_append]
      exact h1)
    have HR1 := Lib.hid (hR.other (a := ⟨w.heap.size + 1, i, none⟩) (by simp) (.bool true))
    have HB1 : Hid (Below w.heap.size W (W.setCell ⟨w.heap.size + 1, i, none⟩ (.bool true))) := Lib.hid ((Below.refl _ _).setCell (by simp) _)
    have HKF := Lib.hid (hS.from_set (((w.alloc (.cells #[.bool false, .bool false, .bool false, .bool false, .bool false, .bool false] 110)).alloc (.cells #[.bool false, .bool false, .bool false, .bool false, .bool false, .bool false] 110)).alloc (.cells #[.pointer (some ⟨d.blk, 0, none⟩)] 78)).heap.size i (.bool true))
    have HBW := Lib.hid (And.intro hck hbw)
    clear hS hR hck hbw
    gi_wp2
    exact ⟨HKF.out, .of_below HB1.out, HS1.out, HR1.out, HBW.out.1.trans (.of_below HB1.out), HBW.out.2.trans HB1.out⟩
  case done =>
    rintro D xs W hD hS ⟨hA, hR, hck, hbw⟩ hK
    have a0 := hA.cell (setV_get _ 0 (by omega))
    have a1 := hA.cell (setV_get _ 1 (by omega))
    have a2 := hA.cell (setV_get _ 2 (by omega))
    have a3 := hA.cell (setV_get _ 3 (by omega))
    have a4 := hA.cell (setV_get _ 4 (by omega))
    have a5 := hA.cell (setV_get _ 5 (by omega))
    have r0 : ∀ k, W.frozen? ⟨w.heap.size, k, none⟩ = false := fun k => hR.frozen k
    have q0 := hR.cell (i := 0) (by rfl)
    have q1 := hR.cell (i := 1) (by rfl)
    have q2 := hR.cell (i := 2) (by rfl)
    have q3 := hR.cell (i := 3) (by rfl)
    have q4 := hR.cell (i := 4) (by rfl)
    have q5 := hR.cell (i := 5) (by rfl)
    have hD0 : D ≠ w.heap.size := by simp at hD; omega
    have HK6 := Lib.hid (heap_store6 W w.heap.size (.bool (decide (0 ∈ List.map NdOf.num xs))) (.bool (decide (1 ∈ List.map NdOf.num xs))) (.bool (decide (2 ∈ List.map NdOf.num xs))) (.bool (decide (3 ∈ List.map NdOf.num xs))) (.bool (decide (4 ∈ List.map NdOf.num xs))) (.bool (decide (5 ∈ List.map NdOf.num xs))) hD0 hK)
    have HR6 := Lib.hid (row_store6 (.bool (decide (0 ∈ List.map NdOf.num xs))) (.bool (decide (1 ∈ List.map NdOf.num xs))) (.bool (decide (2 ∈ List.map NdOf.num xs))) (.bool (decide (3 ∈ List.map NdOf.num xs))) (.bool (decide (4 ∈ List.map NdOf.num xs))) (.bool (decide (5 ∈ List.map NdOf.num xs))) hR)
    have HB6 := Lib.hid (below_store6 (.bool (decide (0 ∈ List.map NdOf.num xs))) (.bool (decide (1 ∈ List.map NdOf.num xs))) (.bool (decide (2 ∈ List.map NdOf.num xs))) (.bool (decide (3 ∈ List.map NdOf.num xs))) (.bool (decide (4 ∈ List.map NdOf.num xs))) (.bool (decide (5 ∈ List.map NdOf.num xs))) (Nat.le_refl w.heap.size) hbw)
    have HS2 := Lib.hid hS
    have HD := Lib.hid hD
    clear hS hA hR hck hbw hK hD hD0
    gi_wp2
    generalize ((((((W.setCell _ _).setCell _ _).setCell _ _).setCell _ _).setCell _ _).setCell _ _) = W6 at HK6 HR6 HB6 ⊢
    refine ⟨by simp, .inl ⟨_, _, rfl, run_takeDeferred HK6.out, ?_⟩⟩
    refine ⟨_, results_cell_row rfl _ _ w.heap.size 110 _ (0, 0) _ rfl (HR6.out.putObj _ HK6.out rfl) Tryd.underlying110 rfl (by kernel_rfl), ?_, HB6.out.trans (belowK_b (w := w) (Nat.le_refl _) W6 D _ _ (by have := HD.out; simp at this; omega) HK6.out rfl rfl)⟩
    simp only [setV, HS2.out]
  case stop =>
    rintro D c pre W _ _ h _
    exact h.elim
theorem setV_put (f : Nat → Bool) (k : Nat) (b : Bool) (hk : k < 6) : (setV f).set k (.bool b) = setV fun i => if i = k then b else f i := by
  rcases (show k = 0 ∨ k = 1 ∨ k = 2 ∨ k = 3 ∨ k = 4 ∨ k = 5 by omega) with rfl | rfl | rfl | rfl | rfl | rfl <;> simp [setV]
theorem setV_step (p q : Nat → Bool) (k : Nat) (b : Bool) (hk : k < 6) (hb : b = (p k && q k)) : (setV fun i => if i < k then p i && q i else p i).set k (.bool b) = setV fun i => if i < k + 1 then p i && q i else p i := by
  rw [setV_put _ _ _ hk]
  congr 1
  funext i
  by_cases h : i = k
  · subst h; simp [hb]
  · rw [if_neg h]
    by_cases h2 : i < k
    · rw [if_pos h2, if_pos (by omega)]
    · rw [if_neg h2, if_neg (by omega)]
end Go.Proofs.YtjogfagjcpcihaaDoor
namespace Go.Proofs.YtjogfagjcpcihaaDoor
open Go Go.RowKit Go.Maps
/-- The cells of a set of places: place (i, j) in cell i * 5 + j. -/
def psetL (f : Nat → Bool) : List Value := (List.range 30).map fun k => .bool (f k)
theorem psetL_length (f : Nat → Bool) : (psetL f).length = 30 := by simp [psetL]
theorem psetL_get (f : Nat → Bool) {k : Nat} (hk : k < 30) : (psetL f)[k]? = some (.bool (f k)) := by
  unfold psetL
  rw [List.getElem?_map, List.getElem?_range hk]
  rfl
theorem psetL_congr {f g : Nat → Bool} (h : ∀ k, k < 30 → f k = g k) : psetL f = psetL g := by
  unfold psetL
  exact List.map_congr_left fun k hk => by rw [h k (List.mem_range.1 hk)]
theorem psetL_set (f : Nat → Bool) (k : Nat) : (psetL f).set k (.bool true) = psetL fun i => f i || i == k := by
  apply List.ext_getElem?
  intro i
  rw [List.getElem?_set]
  by_cases hi : i < 30
  · rw [psetL_get _ hi, psetL_get _ hi, psetL_length]
    by_cases hk : k = i
    · subst hk
      simp [hi]
    · have hk' : (i == k) = false := by simpa using fun h => hk h.symm
      rw [if_neg hk, hk', Bool.or_false]
  · have h1 : (psetL f)[i]? = none := List.getElem?_eq_none (by rw [psetL_length]; omega)
    have h2 : (psetL fun i => f i || i == k)[i]? = none := List.getElem?_eq_none (by rw [psetL_length]; omega)
    rw [h1, h2, psetL_length]
    by_cases hk : k = i
    · rw [if_pos hk, if_neg (by omega)]
    · rw [if_neg hk]
/-- Is the place with this number in a list? -/
def inPl (l : List (Int × Int)) (q : Nat) : Bool := l.any fun p => p.1 * 5 + p.2 == (q : Int)
theorem inPl_snoc (l : List (Int × Int)) (i j : Nat) (q : Nat) : inPl (l ++ [((i : Int), (j : Int))]) q = (inPl l q || q == i * 5 + j) := by
  unfold inPl
  rw [List.any_append]
  congr 1
  simp only [List.any_cons, List.any_nil, Bool.or_false]
  rw [Bool.eq_iff_iff]
  simp only [beq_iff_eq]
  omega
/-- Places of scopes that there can be. -/
def SmallPls (l : List (Int × Int)) : Prop := ∀ p ∈ l, ∃ i j : Nat, p = ((i : Int), (j : Int)) ∧ i < 6 ∧ j < 5
theorem small_places {ss : List Sc} (hv : Valid ss) {l : List (Int × Int)} (h : ∀ p ∈ l, IsPlace ss p) : SmallPls l := by
  intro p hp
  obtain ⟨i, j, c, x, rfl, hc, hx⟩ := h p hp
  have h1 := (List.getElem?_eq_some_iff.1 hc).1
  have h2 := (List.getElem?_eq_some_iff.1 hx).1
  have h3 := hv.count.2
  have h4 := hv.five c (List.mem_of_getElem? hc)
  exact ⟨i, j, rfl, by omega, by omega⟩
set_option maxRecDepth 100000 in
set_option maxHeartbeats 1600000 in
theorem phas_any {w : World} {g : Nat} {f : Nat → Bool} (h : Row w g 101 (psetL f)) {i j : Nat} (hi : i < 6) (hj : j < 5) :
    Calls Tryd.prog 66 #[.pointer (some ⟨g, 0, none⟩), .agg #[.int .i64 (i : Int), .int .i64 (j : Int)]] w fun e w' => e = .returned (.bool (f (i * 5 + j))) ∧ Below w.heap.size w w' := by
  have hbP := (Below.refl w.heap.size w).alloc (Nat.le_refl _) (.cells #[.int .i64 (i : Int), .int .i64 (j : Int)] 32)
  have c0 := cell_drew ((h.alloc (.cells #[.int .i64 (i : Int), .int .i64 (j : Int)] 32)).cell (psetL_get f (show i * 5 + j < 30 by omega)))
  have RP := Row.new w [.int .i64 (i : Int), .int .i64 (j : Int)] 32
  have p0 := cell_drew (RP.cell (i := 0) (v := .int .i64 (i : Int)) (by rfl))
  have p1 := cell_drew (RP.cell (i := 1) (v := .int .i64 (j : Int)) (by rfl))
  have hi' : (i : Int) < 6 := by omega
  have hj' : (j : Int) < 5 := by omega
  have HB := Lib.hid hbP
  clear h RP hbP
  go_enter Tryd.func66, Tryd.ntmps66
  go_wp2
  go_region
  all_goals go_wp2
  all_goals go_ret
  all_goals exact ⟨rfl, HB.out.drew⟩
set_option maxRecDepth 100000 in
set_option maxHeartbeats 1600000 in
theorem padd_any {w : World} {g : Nat} {f : Nat → Bool} (h : Row w g 101 (psetL f)) {oa : Option Addr} {cap : Nat} {l : List (Int × Int)} (hl : l.length ≤ 1000) (hs : SmallPls l) (ha : ArgPlaces w oa l) (hg : ∀ b off, oa = some ⟨b, off, none⟩ → l ≠ [] → b ≠ g) :
    Calls Tryd.prog 100 #[.pointer (some ⟨g, 0, none⟩), .slice oa l.length cap] w fun e w' => e = .returned (.tuple #[]) ∧ Row w' g 101 (psetL fun q => f q || inPl l q) ∧ Turns w w' g g := by
  have HL0 := Lib.hid h
  have HS := Lib.hid hs
  have HA := Lib.hid ha
  have HG := Lib.hid hg
  have hgl := h.lt
  clear h hs ha hg
  go_enter Tryd.func100, Tryd.ntmps100
  go_wp2
  go_loopw [8] (fun i wr => ∃ k : Nat, i = .int .i64 k ∧ k ≤ l.length ∧ Hid (Row wr g 101 (psetL fun q => f q || inPl (l.take k) q) ∧ Turns w wr g g)) (fun i _ => l.length - (intOf i).toNat)
  case atStart => exact ⟨0, rfl, Nat.zero_le _, Lib.hid ⟨by rw [show (psetL fun q => f q || inPl (l.take 0) q) = psetL f from psetL_congr fun k _ => by simp [inPl]]; exact HL0.out, Turns.refl _ _ _⟩⟩
  case round =>
    obtain ⟨k, rfl, hk, hP⟩ := hrel
    by_cases hlt : k < l.length
    · obtain ⟨p, hp⟩ : ∃ p, l[k]? = some p := ⟨_, List.getElem?_eq_getElem hlt⟩
      obtain ⟨i, j, rfl, hi, hj⟩ := HS.out p (List.mem_of_getElem? hp)
      obtain ⟨b1, f1, rfl, hb1, q1⟩ := HA.out.at (by omega)
      have hne := HG.out b1 f1 rfl (fun e => by rw [e] at hlt; simp at hlt)
      obtain ⟨c0, c1⟩ := q1 k _ hp
      have hbl := hP.out.2.rest b1 hb1 hne hne
      have d0 : wr.cell? ⟨b1, f1 + k * 2, none⟩ = some (.int .i64 (i : Int)) := (World.cell?_of_block (a := ⟨b1, f1 + k * 2, none⟩) hbl).trans c0
      have d1 : wr.cell? ⟨b1, f1 + k * 2 + 1, none⟩ = some (.int .i64 (j : Int)) := (World.cell?_of_block (a := ⟨b1, f1 + k * 2 + 1, none⟩) hbl).trans c1
      have HTK : Hid ((psetL fun q => f q || inPl (l.take (k + 1)) q) = (psetL fun q => f q || inPl (l.take k) q).set (i * 5 + j) (.bool true)) := Lib.hid (by
        rw [psetL_set]
        refine psetL_congr fun q _ => ?_
        rw [List.take_add_one, hp]
        simp only [Option.toList_some]
        rw [inPl_snoc, Bool.or_assoc])
      have hwl : g < wr.heap.size := hP.out.1.lt
      have RA := hP.out.1.alloc (.cells #[.int .i64 (i : Int), .int .i64 (j : Int)] 32)
      have RS := (hP.out.1.set (i * 5 + j) (.bool true)).alloc (.cells #[.int .i64 (i : Int), .int .i64 (j : Int)] 32)
      rw [← HTK.out] at RS
      have HRS := Lib.hid RS
      have s0 := cell_drew (RA.cell (psetL_get _ (show i * 5 + j < 30 by omega)))
      have s1 : ∀ n, ((wr.alloc (.cells #[.int .i64 (i : Int), .int .i64 (j : Int)] 32)).drew).frozen? ⟨g, n, none⟩ = false := fun n => RA.frozen n
      have RP := Row.new wr [.int .i64 (i : Int), .int .i64 (j : Int)] 32
      have p0 := cell_drew (RP.cell (i := 0) (v := .int .i64 (i : Int)) (by rfl))
      have p1 := cell_drew (RP.cell (i := 1) (v := .int .i64 (j : Int)) (by rfl))
      have HT : Hid (Turns w (((wr.setCell ⟨g, i * 5 + j, none⟩ (.bool true)).alloc (.cells #[.int .i64 (i : Int), .int .i64 (j : Int)] 32)).drew) g g) := Lib.hid
        (hP.out.2.trans ((Turns.set wr g _ _).trans (.of_below (((Below.refl _ _).alloc (Nat.le_refl _) _).drew))))
      have hi' : (i : Int) < 6 := by omega
      have hj' : (j : Int) < 5 := by omega
      clear hp hne c0 c1 hbl RA RS RP q1
      go_upto_region 3 with (fail)
      go_region
      all_goals go_wp2
      all_goals go_roundw
      all_goals first
        | exact ⟨k + 1, by go_num, by omega, Lib.hid ⟨HRS.out, HT.out⟩⟩
        | (simp only [intOf]; omega)
    · obtain rfl : k = l.length := by omega
      have HE : Hid ((psetL fun q => f q || inPl (l.take l.length) q) = psetL fun q => f q || inPl l q) := Lib.hid (by rw [List.take_length])
      go_wp2
      go_end0
      exact ⟨rfl, by rw [← HE.out]; exact hP.out.1, hP.out.2⟩
end Go.Proofs.YtjogfagjcpcihaaDoor
namespace Go.Proofs.YtjogfagjcpcihaaDoor
open Go Go.RowKit Go.Maps
attribute [local go_sem ↓] field_places
/-- The places that are found for the first k letters. -/
def seenUp (ss : List Sc) (s : Nat) : Nat → Nat → Bool
  | 0, _ => false
  | k + 1, q => seenUp ss s k q || inPl (lookP ss s (letterB k)).places q
theorem owns_block {w : World} {base n size b off len cap : Nat} {e : TypeId} {xs : List Value} (h : w.ownsRow base e size (.slice (some ⟨b, off, none⟩) len cap) n xs) : base ≤ b := by
  obtain ⟨_, h2 | ⟨g, c, cur, hv, hB, _⟩⟩ := h
  · have := h2.1
    simp at this
  · simp only [Value.slice.injEq, Option.some.injEq, Addr.mk.injEq] at hv
    omega
/-- What holds at the head of a round. -/
structure SeenAt (w wr : World) (B L M T M1 M2 : Nat) (v : Value) (ds : List Nd) (ss : List Sc) (s j k : Nat) : Prop where
  left : Left w wr B L M T M1 M2 v ds ss
  iter : wr.heap[w.heap.size + 1 + 1]? = some (.stringIter lettersB j)
  set : Row wr (w.heap.size + 1) 101 (psetL (seenUp ss s k))
  res : Row wr w.heap.size 101 (psetL fun _ => false)
theorem SeenAt.pos {w wr : World} {B L M T M1 M2 s j k : Nat} {v : Value} {ds : List Nd} {ss : List Sc} (h : SeenAt w wr B L M T M1 M2 v ds ss s j k) : wr.iterPos (w.heap.size + 1 + 1) = j := by
  unfold World.iterPos; rw [h.iter]
theorem SeenAt.next {w wr : World} {B L M T M1 M2 s j k : Nat} {v : Value} {ds : List Nd} {ss : List Sc} (hL : LookW w B L M T M1 M2 v ds ss) (h : SeenAt w wr B L M T M1 M2 v ds ss s j k) (i : Nat) : SeenAt w (wr.iterAt (w.heap.size + 1 + 1) lettersB i) B L M T M1 M2 v ds ss s i k :=
  ⟨Left.far hL h.left (Lib.below_iterAt (Below.refl _ _) (by omega) _ _), Lib.iterAt_heap wr _ _ _ _ h.iter,
   (Lib.iterAt_other wr (w.heap.size + 1 + 1) (w.heap.size + 1) lettersB i (by omega)).trans h.set, (Lib.iterAt_other wr (w.heap.size + 1 + 1) w.heap.size lettersB i (by omega)).trans h.res⟩
theorem SeenAt.call {w wr w' : World} {B L M T M1 M2 s j k : Nat} {v : Value} {ds : List Nd} {ss : List Sc} (hL : LookW w B L M T M1 M2 v ds ss) (h : SeenAt w wr B L M T M1 M2 v ds ss s j k) (hl : Left wr w' B L M T M1 M2 v ds ss) : SeenAt w w' B L M T M1 M2 v ds ss s j k :=
  have hM := hL.memo.lt
  ⟨h.left.trans hl, (hl.turns.rest _ (Array.getElem?_eq_some_iff.1 h.iter).1 (by omega) (by omega)).trans h.iter,
   (hl.turns.rest _ h.set.lt (by omega) (by omega)).trans h.set, (hl.turns.rest _ h.res.lt (by omega) (by omega)).trans h.res⟩
theorem SeenAt.added {w wr w' : World} {B L M T M1 M2 s j k : Nat} {v : Value} {ds : List Nd} {ss : List Sc} (hL : LookW w B L M T M1 M2 v ds ss) (h : SeenAt w wr B L M T M1 M2 v ds ss s j k)
    (hr : Row w' (w.heap.size + 1) 101 (psetL fun q => seenUp ss s k q || inPl (lookP ss s (letterB k)).places q)) (ht : Turns wr w' (w.heap.size + 1) (w.heap.size + 1)) : SeenAt w w' B L M T M1 M2 v ds ss s j (k + 1) :=
  ⟨Left.far hL h.left (ht.below (by omega) (by omega) h.left.turns.size), (ht.rest _ (Array.getElem?_eq_some_iff.1 h.iter).1 (by omega) (by omega)).trans h.iter, hr, (ht.rest _ h.res.lt (by omega) (by omega)).trans h.res⟩
theorem below_setRow (W : World) (g : Nat) (cs : Array Value) {N : Nat} (hg : N ≤ g) : Below N W (W.setRow g cs) :=
  ⟨rfl, rfl, rfl, by simp, fun k hk => setRow_other W g k cs (by omega)⟩
theorem psetL_one (f : Nat → Bool) : (psetL f).toArray.all (·.oneCell') = true := by
  have h : ∀ v ∈ psetL f, v.oneCell' = true := by
    intro v hv
    unfold psetL at hv
    obtain ⟨k, _, rfl⟩ := List.mem_map.1 hv
    rfl
  rw [Array.all_eq_true]
  intro i hi
  have h1 := h _ (List.getElem_mem (l := psetL f) (n := i) (by simpa using hi))
  simpa using h1
theorem psetL_info (f : Nat → Bool) : (Tryd.prog.info? 101).map (·.size) = some (psetL f).toArray.size := by
  rw [List.size_toArray, psetL_length]
  kernel_rfl
set_option maxRecDepth 100000 in
set_option maxHeartbeats 4000000 in
theorem seen_any {ss : List Sc} (hv : Valid ss) {w : World} {B L M T M1 M2 : Nat} {v : Value} {ds : List Nd} (hL : LookW w B L M T M1 M2 v ds ss) {s : Nat} {d : Nd} (hd : ds[s]? = some d) :
    Calls Tryd.prog 64 #[.pointer (some ⟨L, 0, none⟩), .pointer (some ⟨d.blk, 0, none⟩)] w fun e w' => e = .returned (.agg (psetL (seenUp ss s 26)).toArray) ∧ Left w w' B L M T M1 M2 v ds ss := by
  have hb0 : Below w.heap.size w ((w.alloc (.cells #[.bool false, .bool false, .bool false, .bool false, .bool false, .bool false, .bool false, .bool false, .bool false, .bool false, .bool false, .bool false, .bool false, .bool false, .bool false, .bool false, .bool false, .bool false, .bool false, .bool false, .bool false, .bool false, .bool false, .bool false, .bool false, .bool false, .bool false, .bool false, .bool false, .bool false] 101)).alloc (.cells #[.bool false, .bool false, .bool false, .bool false, .bool false, .bool false, .bool false, .bool false, .bool false, .bool false, .bool false, .bool false, .bool false, .bool false, .bool false, .bool false, .bool false, .bool false, .bool false, .bool false, .bool false, .bool false, .bool false, .bool false, .bool false, .bool false, .bool false, .bool false, .bool false, .bool false] 101)) := ((Below.refl _ _).alloc (Nat.le_refl _) _).alloc (by simp) _
  have hA0 : Row ((w.alloc (.cells #[.bool false, .bool false, .bool false, .bool false, .bool false, .bool false, .bool false, .bool false, .bool false, .bool false, .bool false, .bool false, .bool false, .bool false, .bool false, .bool false, .bool false, .bool false, .bool false, .bool false, .bool false, .bool false, .bool false, .bool false, .bool false, .bool false, .bool false, .bool false, .bool false, .bool false] 101)).alloc (.cells #[.bool false, .bool false, .bool false, .bool false, .bool false, .bool false, .bool false, .bool false, .bool false, .bool false, .bool false, .bool false, .bool false, .bool false, .bool false, .bool false, .bool false, .bool false, .bool false, .bool false, .bool false, .bool false, .bool false, .bool false, .bool false, .bool false, .bool false, .bool false, .bool false, .bool false] 101)) w.heap.size 101 (psetL fun _ => false) := (Row.new w [.bool false, .bool false, .bool false, .bool false, .bool false, .bool false, .bool false, .bool false, .bool false, .bool false, .bool false, .bool false, .bool false, .bool false, .bool false, .bool false, .bool false, .bool false, .bool false, .bool false, .bool false, .bool false, .bool false, .bool false, .bool false, .bool false, .bool false, .bool false, .bool false, .bool false] 101).alloc _
  have hA1 : Row ((w.alloc (.cells #[.bool false, .bool false, .bool false, .bool false, .bool false, .bool false, .bool false, .bool false, .bool false, .bool false, .bool false, .bool false, .bool false, .bool false, .bool false, .bool false, .bool false, .bool false, .bool false, .bool false, .bool false, .bool false, .bool false, .bool false, .bool false, .bool false, .bool false, .bool false, .bool false, .bool false] 101)).alloc (.cells #[.bool false, .bool false, .bool false, .bool false, .bool false, .bool false, .bool false, .bool false, .bool false, .bool false, .bool false, .bool false, .bool false, .bool false, .bool false, .bool false, .bool false, .bool false, .bool false, .bool false, .bool false, .bool false, .bool false, .bool false, .bool false, .bool false, .bool false, .bool false, .bool false, .bool false] 101)) (w.heap.size + 1) 101 (psetL fun _ => false) := by
    have := Row.new (w.alloc (.cells #[.bool false, .bool false, .bool false, .bool false, .bool false, .bool false, .bool false, .bool false, .bool false, .bool false, .bool false, .bool false, .bool false, .bool false, .bool false, .bool false, .bool false, .bool false, .bool false, .bool false, .bool false, .bool false, .bool false, .bool false, .bool false, .bool false, .bool false, .bool false, .bool false, .bool false] 101)) [.bool false, .bool false, .bool false, .bool false, .bool false, .bool false, .bool false, .bool false, .bool false, .bool false, .bool false, .bool false, .bool false, .bool false, .bool false, .bool false, .bool false, .bool false, .bool false, .bool false, .bool false, .bool false, .bool false, .bool false, .bool false, .bool false, .bool false, .bool false, .bool false, .bool false] 101
    rw [World.size_alloc] at this
    exact this
  have HP0 : Hid (SeenAt w (((w.alloc (.cells #[.bool false, .bool false, .bool false, .bool false, .bool false, .bool false, .bool false, .bool false, .bool false, .bool false, .bool false, .bool false, .bool false, .bool false, .bool false, .bool false, .bool false, .bool false, .bool false, .bool false, .bool false, .bool false, .bool false, .bool false, .bool false, .bool false, .bool false, .bool false, .bool false, .bool false] 101)).alloc (.cells #[.bool false, .bool false, .bool false, .bool false, .bool false, .bool false, .bool false, .bool false, .bool false, .bool false, .bool false, .bool false, .bool false, .bool false, .bool false, .bool false, .bool false, .bool false, .bool false, .bool false, .bool false, .bool false, .bool false, .bool false, .bool false, .bool false, .bool false, .bool false, .bool false, .bool false] 101)).iter lettersB 0) B L M T M1 M2 v ds ss s 0 0) := Lib.hid
    ⟨Left.far hL hL.left (hb0.alloc (by simp; omega) _), by have := World.iter_heap ((w.alloc (.cells #[.bool false, .bool false, .bool false, .bool false, .bool false, .bool false, .bool false, .bool false, .bool false, .bool false, .bool false, .bool false, .bool false, .bool false, .bool false, .bool false, .bool false, .bool false, .bool false, .bool false, .bool false, .bool false, .bool false, .bool false, .bool false, .bool false, .bool false, .bool false, .bool false, .bool false] 101)).alloc (.cells #[.bool false, .bool false, .bool false, .bool false, .bool false, .bool false, .bool false, .bool false, .bool false, .bool false, .bool false, .bool false, .bool false, .bool false, .bool false, .bool false, .bool false, .bool false, .bool false, .bool false, .bool false, .bool false, .bool false, .bool false, .bool false, .bool false, .bool false, .bool false, .bool false, .bool false] 101)) lettersB 0; rw [World.size_alloc, World.size_alloc] at this; exact this, hA1.alloc _, hA0.alloc _⟩
  have HV := Lib.hid hv
  have HD := Lib.hid hd
  have HL0 := Lib.hid hL
  clear hv hL hd hb0 hA0 hA1
  go_enter Tryd.func64, Tryd.ntmps64
  go_wp2
  go_loopw [7] (fun _ wr => ∃ k : Nat, k ≤ 26 ∧ Hid (SeenAt w wr B L M T M1 M2 v ds ss s k k)) (fun _ wr => 26 - wr.iterPos (w.heap.size + 1 + 1))
  case atStart => exact ⟨0, by omega, HP0⟩
  case round =>
    obtain ⟨k, hk, HW⟩ := hrel
    by_cases hlt : k < 26
    · have hnx := pickI_next HW.out.iter hlt
      have henc : Utf8.encode (97 + (k : Int)) = letterB k := encode_letter hlt
      have HN := Lib.hid (HW.out.next HL0.out (k + 1))
      have C2 := Lib.hid (find_node HV.out HN.out.left.look HD.out (fun m _ => target_any HV.out m) (letterB k))
      go_wp2_with fail
      refine C2.out.mono ?_
      rintro e w3 ⟨u, rfl, hrow, hl3⟩
      obtain ⟨ou, cu, rfl, hap⟩ := argPlaces_of_owns hrow
      have HW3 := Lib.hid (HN.out.call HL0.out hl3)
      have HNE : Hid (∀ b off, ou = some ⟨b, off, none⟩ → (lookP ss s (letterB k)).places ≠ [] → b ≠ w.heap.size + 1) := Lib.hid (by
        rintro b off rfl _
        have h1 := owns_block hrow
        have h2 := HN.out.set.lt
        omega)
      have HAP := Lib.hid hap
      clear hrow hl3 hnx hap
      go_wp2_with fail
      refine (padd_any HW3.out.set (Nat.le_trans (show (lookP ss s (letterB k)).places.length ≤ 25 from lookF_length HV.out _ _) (by omega)) (small_places HV.out look_isPlace) HAP.out HNE.out).mono ?_
      rintro e w4 ⟨rfl, hr4, ht4⟩
      have HW4 := Lib.hid (HW3.out.added HL0.out hr4 ht4)
      clear hr4 ht4
      go_wp2
      go_roundw
      case rel => exact ⟨k + 1, by omega, HW4⟩
      case measure => rw [HW4.out.pos, HW.out.pos]; omega
    · obtain rfl : k = 26 := by omega
      have hnx := pickI_end HW.out.iter hlt
      have hs1 := HW.out.set
      have hs0 := HW.out.res
      unfold Row at hs1 hs0
      go_wp2_with (first
        | (refine wpList_load_row rfl 101 _ rfl (w.heap.size + 1) rfl 101 _ (0, 0) _ hs1 Tryd.underlying101 rfl (psetL_info _) ?_)
        | (refine wpList_store_row rfl 101 _ _ rfl w.heap.size (psetL (seenUp ss s 26)).toArray rfl rfl 101 _ hs0 (psetL_info _) (by simp [psetL_length]) (psetL_one _) ?_))
      exact bodyPost_ret (v := .agg (psetL (seenUp ss s 26)).toArray) (results_cell_row rfl _ _ w.heap.size 101 _ (0, 0) _ rfl (setRow_heap _ _ _ _ _ _ hs0) Tryd.underlying101 rfl (psetL_info _)) rfl ⟨rfl, Left.far HL0.out HW.out.left (below_setRow _ _ _ (Nat.le_refl _))⟩
end Go.Proofs.YtjogfagjcpcihaaDoor
namespace Go.Proofs.YtjogfagjcpcihaaDoor
open Go Go.RowKit Go.Maps
theorem name_bytes {a b : ByteArray} (h : (a.toList == b.toList) = true) : a = b := by
  rw [beq_iff_eq, ByteArray.toList_eq, ByteArray.toList_eq] at h
  exact ByteArray.ext (Array.ext' h)
theorem name_letter {nm : ByteArray} (h : nameB nm = true) : ∃ k, k < 26 ∧ nm = letterB k := by
  unfold nameB at h
  split at h
  · rename_i b hd
    simp only [inB, Bool.and_eq_true, decide_eq_true_eq] at h
    refine ⟨b.toNat - 97, by omega, ?_⟩
    apply ByteArray.ext
    apply Array.ext'
    rw [hd]
    show [b] = [UInt8.ofNat (97 + (b.toNat - 97))]
    rw [show 97 + (b.toNat - 97) = b.toNat by omega, UInt8.ofNat_toNat]
  · cases h
theorem own_decl {ss : List Sc} {s : Nat} {nm : ByteArray} {p : Int × Int} (h : p ∈ ownP ss s nm) : ∃ x, itemAtP ss p.1 p.2 = some x ∧ x.kind = 1 ∧ x.name = nm := by
  obtain ⟨c, j, x, hc, hx, ho, rfl⟩ := mem_ownP h
  unfold isOwn at ho
  simp only [Bool.and_eq_true] at ho
  exact ⟨x, by rw [itemAtP_nat hc]; exact hx, by simpa using ho.1, name_bytes ho.2⟩
theorem look_decl {ss : List Sc} {imps : Nat → List Nat} {nm : ByteArray} : ∀ {l : List Nat}, ∀ p ∈ (lookF ss imps nm l).places, ∃ x, itemAtP ss p.1 p.2 = some x ∧ x.kind = 1 ∧ x.name = nm
  | [], p, hp => by simp [lookF] at hp
  | m :: r, p, hp => by
    unfold lookF at hp
    split at hp
    · split at hp
      · exact look_decl p hp
      · have h : p ∈ fromP ss (imps m) nm := hp
        unfold fromP at h
        obtain ⟨k, _, hk⟩ := List.mem_flatMap.1 h
        exact own_decl hk
    · exact own_decl hp
theorem seenUp_iff (ss : List Sc) (s q : Nat) : ∀ n : Nat, seenUp ss s n q = true ↔ ∃ k, k < n ∧ inPl (lookP ss s (letterB k)).places q = true
  | 0 => by simp [seenUp]
  | n + 1 => by
    show (seenUp ss s n q || inPl (lookP ss s (letterB n)).places q) = true ↔ _
    rw [Bool.or_eq_true, seenUp_iff ss s q n]
    constructor
    · rintro (⟨k, hk, h⟩ | h)
      · exact ⟨k, by omega, h⟩
      · exact ⟨n, by omega, h⟩
    · rintro ⟨k, hk, h⟩
      by_cases e : k = n
      · exact .inr (e ▸ h)
      · exact .inl ⟨k, by omega, h⟩
theorem placed_small {ss : List Sc} (hv : Valid ss) {i j : Nat} {x : It} (hq : (i, j, x) ∈ placed 0 ss) : i < 6 ∧ j < 5 := by
  obtain ⟨c, hc, hx⟩ := placed_at hq
  dsimp only at hc hx
  have h1 := (List.getElem?_eq_some_iff.1 hc).1
  have h2 := (List.getElem?_eq_some_iff.1 hx).1
  have h3 := hv.count.2
  have h4 := hv.five c (List.mem_of_getElem? hc)
  omega
/-- The set tells of each item whether it is a declaration that is found by its name. -/
theorem seen_at {ss : List Sc} (hv : Valid ss) (s : Nat) {i j : Nat} {x : It} (hq : (i, j, x) ∈ placed 0 ss) : seenUp ss s 26 (i * 5 + j) = seesB ss s (i, j, x) := by
  have hsm := placed_small hv hq
  rw [Bool.eq_iff_iff, seenUp_iff]
  unfold seesB foundB
  simp only [Bool.and_eq_true, beq_iff_eq, decide_eq_true_eq]
  constructor
  · rintro ⟨k, hk, h⟩
    unfold inPl at h
    obtain ⟨p, hp, he⟩ := List.any_eq_true.1 h
    rw [beq_iff_eq] at he
    obtain ⟨i', j', rfl, hi', hj'⟩ := small_places hv look_isPlace p hp
    dsimp only at he
    obtain rfl : i' = i := by omega
    obtain rfl : j' = j := by omega
    obtain ⟨y, hy, hk1, hn⟩ := look_decl _ hp
    have h2 := placed_item hq
    dsimp only at h2 hy
    rw [h2] at hy
    cases hy
    refine ⟨hk1, ?_⟩
    rw [hn]
    exact hp
  · rintro ⟨hk1, hf⟩
    have h1 := item_of hv hq
    unfold itemB at h1
    simp only [Bool.and_eq_true] at h1
    obtain ⟨k, hk, hn⟩ := name_letter h1.1.1
    refine ⟨k, hk, ?_⟩
    unfold inPl
    refine List.any_eq_true.2 ⟨_, by rw [← hn]; exact hf, ?_⟩
    unfold plOf
    simp
end Go.Proofs.YtjogfagjcpcihaaDoor
namespace Go.Proofs.YtjogfagjcpcihaaDoor
open Go Go.RowKit Go.Maps
attribute [local go_sem] Oper.semAt_some
theorem pset_new (W : World) (f : Nat → Bool) : Row ((W.alloc (.cells #[.bool false, .bool false, .bool false, .bool false, .bool false, .bool false, .bool false, .bool false, .bool false, .bool false, .bool false, .bool false, .bool false, .bool false, .bool false, .bool false, .bool false, .bool false, .bool false, .bool false, .bool false, .bool false, .bool false, .bool false, .bool false, .bool false, .bool false, .bool false, .bool false, .bool false] 101)).setRow W.heap.size (psetL f).toArray) W.heap.size 101 (psetL f) :=
  setRow_heap _ _ _ _ _ _ (show (W.alloc (.cells #[.bool false, .bool false, .bool false, .bool false, .bool false, .bool false, .bool false, .bool false, .bool false, .bool false, .bool false, .bool false, .bool false, .bool false, .bool false, .bool false, .bool false, .bool false, .bool false, .bool false, .bool false, .bool false, .bool false, .bool false, .bool false, .bool false, .bool false, .bool false, .bool false, .bool false] 101)).heap[W.heap.size]? = some (.cells #[.bool false, .bool false, .bool false, .bool false, .bool false, .bool false, .bool false, .bool false, .bool false, .bool false, .bool false, .bool false, .bool false, .bool false, .bool false, .bool false, .bool false, .bool false, .bool false, .bool false, .bool false, .bool false, .bool false, .bool false, .bool false, .bool false, .bool false, .bool false, .bool false, .bool false] 101 (0, 0)) from Row.new W [.bool false, .bool false, .bool false, .bool false, .bool false, .bool false, .bool false, .bool false, .bool false, .bool false, .bool false, .bool false, .bool false, .bool false, .bool false, .bool false, .bool false, .bool false, .bool false, .bool false, .bool false, .bool false, .bool false, .bool false, .bool false, .bool false, .bool false, .bool false, .bool false, .bool false] 101)
def elF {ss : List Sc} (f : Nat × Nat × It → Bool) (pre : List (El ss)) : List (Int × Int) := filtL f (pre.map Subtype.val)
set_option maxRecDepth 100000 in
set_option maxHeartbeats 8000000 in
theorem implSeenFrom_any (ss : List Sc) (hF : Fair ss) (oa : Option Addr) (cap : Nat) (n : Int) (w : World) (hc : HoldsScopes w oa ss) (hE : NodeErrs w) :
    Calls Tryd.prog 22 #[.agg #[.slice oa ss.length cap], .int .i64 n] w (PlGot (HasScope ss n) (filtL (seesB ss n.toNat) (placed 0 ss)) w) := by
  have hb0 := (Below.refl w.heap.size w).alloc (Nat.le_refl _) (.cells #[.slice oa ss.length cap] 25)
  have C := Lib.hid (nodeOf_any ss hF oa cap n _ (hc.below hb0 (Nat.le_refl _)) (hE.at hb0))
  have HB0 := Lib.hid hb0
  clear hF hc hE hb0
  refine (callsIn_wide (n := 6)).1 ?_
  refine callsIn_of_wp_marks Tryd.func22 rfl trivial ?_ rfl
  simp only [Tryd.ntmps22, List.size_toArray, List.length_cons, List.length_nil, Nat.reduceAdd, Nat.reduceSub, Array.replicate_succ, Array.replicate_zero, List.push_toArray, List.append_toArray, List.nil_append, List.cons_append]
  refine wpIn_wide.2 ?_
  go_wp2_with fail
  refine C.out.mono ?_
  rintro e w1 (⟨hv, ⟨tp, p, rfl⟩, hb⟩ | ⟨hv, s, d, T, M1, M2, v, ds, rfl, hs, hd, rfl, hb, hT⟩)
  · have HV := Lib.hid hv
    have HB := Lib.hid (HB0.out.trans (hb.mono HB0.out.size))
    clear hv hb
    go_wp2
    exact ⟨_, results_tmp2 rfl _ _ _, .inl ⟨HV.out, rfl, HB.out⟩⟩
  · have HV : Hid (HasScope ss (s : Int)) := Lib.hid ⟨hv, by omega, by omega⟩
    have HB := Lib.hid (HB0.out.trans (hb.mono HB0.out.size))
    obtain ⟨B, HT⟩ : ∃ B, Hid (TreeIs w1 B T M1 M2 v ds ss) := ⟨_, Lib.hid hT⟩
    have HD := Lib.hid hd
    clear hv hb hT hd hs
    go_wp2_with fail
    refine (lookupIn_any T _).mono ?_
    rintro e w2 ⟨rfl, hR, hM, hb2⟩
    have HB2 := Lib.hid (HB.out.trans (hb2.mono HB.out.size))
    have HLW := Lib.hid (LookW.mk (HT.out.below hb2) hR (memo_nil hM) (by obtain ⟨_, h⟩ := HT.out.items; have := h.lt; omega) (by obtain ⟨_, h⟩ := HT.out.mods; have := h.lt; omega))
    clear hR hM hb2
    go_wp2_with fail
    refine (seen_any HV.out.1 HLW.out HD.out).mono ?_
    rintro e w3 ⟨rfl, hl3⟩
    have HB3 := Lib.hid (HB2.out.trans (hl3.turns.below HB.out.size HB.out.size HB2.out.size))
    have hz : (w3.alloc (.cells #[.bool false, .bool false, .bool false, .bool false, .bool false, .bool false, .bool false, .bool false, .bool false, .bool false, .bool false, .bool false, .bool false, .bool false, .bool false, .bool false, .bool false, .bool false, .bool false, .bool false, .bool false, .bool false, .bool false, .bool false, .bool false, .bool false, .bool false, .bool false, .bool false, .bool false] 101)).heap[w3.heap.size]? = some (.cells #[.bool false, .bool false, .bool false, .bool false, .bool false, .bool false, .bool false, .bool false, .bool false, .bool false, .bool false, .bool false, .bool false, .bool false, .bool false, .bool false, .bool false, .bool false, .bool false, .bool false, .bool false, .bool false, .bool false, .bool false, .bool false, .bool false, .bool false, .bool false, .bool false, .bool false] 101 (0, 0)) := Row.new w3 [.bool false, .bool false, .bool false, .bool false, .bool false, .bool false, .bool false, .bool false, .bool false, .bool false, .bool false, .bool false, .bool false, .bool false, .bool false, .bool false, .bool false, .bool false, .bool false, .bool false, .bool false, .bool false, .bool false, .bool false, .bool false, .bool false, .bool false, .bool false, .bool false, .bool false] 101
    have hbS : Below w3.heap.size w3 ((w3.alloc (.cells #[.bool false, .bool false, .bool false, .bool false, .bool false, .bool false, .bool false, .bool false, .bool false, .bool false, .bool false, .bool false, .bool false, .bool false, .bool false, .bool false, .bool false, .bool false, .bool false, .bool false, .bool false, .bool false, .bool false, .bool false, .bool false, .bool false, .bool false, .bool false, .bool false, .bool false] 101)).setRow w3.heap.size (psetL (seenUp ss s 26)).toArray) := ((Below.refl _ _).alloc (Nat.le_refl _) _).trans (below_setRow _ _ _ (Nat.le_refl _))
    have HT4 := Lib.hid (hl3.look.tree.below hbS)
    have HB4 := Lib.hid (HB3.out.trans (hbS.mono HB3.out.size))
    have HS4 := Lib.hid (pset_new w3 (seenUp ss s 26))
    have HLT : Hid (w3.heap.size < ((w3.alloc (.cells #[.bool false, .bool false, .bool false, .bool false, .bool false, .bool false, .bool false, .bool false, .bool false, .bool false, .bool false, .bool false, .bool false, .bool false, .bool false, .bool false, .bool false, .bool false, .bool false, .bool false, .bool false, .bool false, .bool false, .bool false, .bool false, .bool false, .bool false, .bool false, .bool false, .bool false] 101)).setRow w3.heap.size (psetL (seenUp ss s 26)).toArray).heap.size) := Lib.hid HS4.out.lt
    clear hl3 hbS
    go_upto_region 5 with (refine wpList_store_row rfl 101 _ _ rfl w3.heap.size (psetL (seenUp ss s 26)).toArray rfl rfl 101 _ hz (psetL_info _) (by simp [psetL_length]) (psetL_one _) ?_)
    clear hz
    obtain ⟨g, hg⟩ : ∃ g, w3.heap.size = g := ⟨_, rfl⟩
    generalize ((w3.alloc (.cells #[.bool false, .bool false, .bool false, .bool false, .bool false, .bool false, .bool false, .bool false, .bool false, .bool false, .bool false, .bool false, .bool false, .bool false, .bool false, .bool false, .bool false, .bool false, .bool false, .bool false, .bool false, .bool false, .bool false, .bool false, .bool false, .bool false, .bool false, .bool false, .bool false, .bool false] 101)).setRow w3.heap.size (psetL (seenUp ss s 26)).toArray) = w4 at *
    rw [hg] at *
    go_upto_region 6 with (fail)
    go_wp2_with fail
    refine (all_any _ _).mono ?_
    rintro e w5 ⟨rfl, rfl⟩
    go_wp2
    refine (wpIn_wide (n := 6)).1 ?_
    gi_wp2
    have hBx : Below w4.heap.size w4 ((w4.alloc (.cells #[.slice none 0 0] 46)).alloc (.cells #[.pointer (some ⟨T, 0, none⟩)] 77)) := ((Below.refl _ _).alloc (Nat.le_refl _) _).alloc (by simp) _
    have bL := (Boxed.new w4 46 (.slice none 0 0)).alloc (.cells #[.pointer (some ⟨T, 0, none⟩)] 77)
    have bN := Boxed.new (w4.alloc (.cells #[.slice none 0 0] 46)) 77 (.pointer (some ⟨T, 0, none⟩))
    rw [World.size_alloc] at bN
    have hsm := HV.out.1.small
    refine wpIn_rangeFunc_ownH rfl (by omega) (gf := 101) (lb := #[.pointer (some ⟨w4.heap.size + 1, 0, none⟩)]) rfl trivial (enters_of Tryd.func101 (by kernel_rfl) rfl)
      (all_stops 5 (by omega) (w4.heap.size + 1) _ T M1 M2 v ds ss w4 _ HT4.out.tree HT4.out.hold (HT4.out.ne HV.out.1) hsm.len hsm.items (.of_below hBx) bN.cell) CellsKept.trans (fun W l o o' _ h1 h2 h3 => cellsKept_b (w := w4) W l o o' (by simp at *; omega) h1 h2 h3) (Below.refl _ _) (fun _ => rfl)
      (fun pre W => (∃ u, Boxed W w4.heap.size 46 u ∧ W.ownsRow w4.heap.size 32 2 u (elF (seesB ss s) pre).length (placeCells (elF (seesB ss s) pre)) ∧ True) ∧ (CellsKept w4.heap.size w4 W ∧ Below w4.heap.size w4 W))
      (fun _ _ _ => False)
      (OwnFrom.and (Own.from (holdsRow_own w4.heap.size w4.heap.size 46 32 2 (fun pre : List (El ss) => (elF (seesB ss s) pre).length) (fun pre => placeCells (elF (seesB ss s) pre)) (fun _ _ => True)) _) (OwnFrom.and (cellsKept_own w4) (ownFrom_below (Nat.le_refl _) (by simp; omega))))
      (fun _ _ _ _ _ hs _ _ => hs)
      ⟨⟨_, bL, World.ownsRow_nil _ _ _ _, trivial⟩, .of_below hBx, hBx⟩
      (fun x a' W => ∃ Bp, Row W Bp 32 [.int .i64 (x.1.1 : Int), .int .i64 (x.1.2.1 : Int)] ∧ w4.heap.size < Bp ∧
        a' = { tmps := #[.agg #[.slice oa ss.length cap], .int .i64 (s : Int), .pointer (some ⟨w.heap.size, 0, none⟩), undef, .slice none 0 0, .bool false, .pointer (some ⟨T, 0, none⟩), .pointer (some ⟨d.blk, 0, none⟩), .nilIface, .pointer (some ⟨g, 0, none⟩), .pointer (some ⟨w4.heap.size, 0, none⟩), .pointer (some ⟨Bp, 0, none⟩), .tuple #[.pointer (some ⟨T, 0, none⟩), .pointer (some ⟨d.blk, 0, none⟩), .nilIface], .agg #[.slice oa ss.length cap], .int .i64 (s : Int), .tuple #[.pointer (some ⟨T, 0, none⟩), .pointer (some ⟨d.blk, 0, none⟩), .nilIface], .pointer (some ⟨T, 0, none⟩), .pointer (some ⟨d.blk, 0, none⟩), .nilIface, .nilIface, .bool false, .pointer (some ⟨T, 0, none⟩), .pointer (some ⟨w1.heap.size + 1, 0, none⟩), .pointer (some ⟨d.blk, 0, none⟩), .agg (psetL (seenUp ss s 26)).toArray, .pointer (some ⟨T, 0, none⟩), .func (.func 101) #[] #[.pointer (some ⟨w4.heap.size + 1, 0, none⟩)], .agg #[.int .i64 (x.1.1 : Int), .int .i64 (x.1.2.1 : Int)], .agg #[.int .i64 x.1.2.2.kind, .string x.1.2.2.name, .int .i64 x.1.2.2.scope], undef, undef, undef, undef, undef, undef, undef], defers := [] })
      (fun x a' _ X Y row hs hg hr => by obtain ⟨Bp, h1, h3, h5⟩ := hs; exact ⟨Bp, h1.kept_cells hg (fun r e => (hr r e).2), h3, h5⟩)
      ?assign ?body ?done ?stop
    case assign =>
      rintro l pre x W K hi hK
      dsimp only [elArgs]
      gi_wp2
      have ha : Below W.heap.size W (W.alloc (.cells #[.int .i64 (x.1.1 : Int), .int .i64 (x.1.2.1 : Int)] 32)) := (Below.refl _ _).alloc (Nat.le_refl _) _
      obtain ⟨⟨u, hB, hrow, -⟩, hck, hbw⟩ := hi
      have hlt := hB.lt
      refine hK _ _ ((KeepsOthers.alloc _ _).from _) ((CellsKept.of_below ha).mono hbw.size) ⟨⟨u, hB.alloc _, hrow.alloc _, trivial⟩, hck.trans ((CellsKept.of_below ha).mono hbw.size), hbw.trans (ha.mono hbw.size)⟩ ⟨W.heap.size, ?_, hlt, rfl⟩
      exact Row.new W [.int .i64 (x.1.1 : Int), .int .i64 (x.1.2.1 : Int)] 32
    case body =>
      rintro l pre x a' W hl _ ⟨⟨u, hB, hrow, -⟩, hck, hbw⟩ ⟨Bp, hp, hlp, rfl⟩ hlen
      obtain ⟨⟨i, j, it⟩, hmem⟩ := x
      have HQ : Hid (elF (seesB ss s) (pre ++ [(⟨(i, j, it), hmem⟩ : El ss)]) = elF (seesB ss s) pre ++ if seesB ss s (i, j, it) = true then [((i : Int), (j : Int))] else []) := Lib.hid (by unfold elF; rw [List.map_append]; exact filtL_snoc _ _ _)
      dsimp only at hp ⊢
      have hlen' : (elF (seesB ss s) pre).length < 1000000 := by
        have h1 := filtL_length (seesB ss s) (pre.map Subtype.val)
        have h2 := placed_bound 0 ss 6 5 HV.out.1.count.2 HV.out.1.five
        rw [List.length_map] at h1
        unfold elF
        omega
      have p0 := hp.cell (i := 0) (by rfl)
      have p1 := hp.cell (i := 1) (by rfl)
      have hsm2 := placed_small HV.out.1 hmem
      have HSA := Lib.hid (seen_at HV.out.1 s hmem)
      have C2 := Lib.hid (CallsIn.inRound l ((callsIn_wide (n := 3)).2 (phas_any (f := seenUp ss s 26) (show Row W g 101 (psetL (seenUp ss s 26)) from hck.block g _ _ _ HS4.out.lt HS4.out) hsm2.1 hsm2.2)))
      have HI := Lib.hid (And.intro hck hbw)
      have HBR := Lib.hid (And.intro hB hrow)
      have HPR := Lib.hid hp
      clear hB hrow hck hbw hp hsm2
      gi_wp2_with fail
      refine ⟨trivial, ?_⟩
      gi_at_call 66
      refine C2.out.mono ?_
      rintro e w6 ⟨rfl, hb6⟩
      have hB6 : Boxed w6 w4.heap.size 46 u := (hb6.block _ HBR.out.1.lt).trans HBR.out.1
      have hrow6 := ownsRow_below HBR.out.2 hb6
      have hp6 := HPR.out.below hb6 HPR.out.lt
      have p60 := hp6.cell (i := 0) (by rfl)
      have p61 := hp6.cell (i := 1) (by rfl)
      have HKF := Lib.hid (keepsOthers_of_below hb6)
      have HBW6 := Lib.hid (HI.out.2.trans (hb6.mono HI.out.2.size))
      have HCK6 := Lib.hid (HI.out.1.trans ((CellsKept.of_below hb6).mono HI.out.2.size))
      have HCB6 := Lib.hid ((CellsKept.of_below hb6).mono HI.out.2.size)
      clear hb6 p0 p1
      rw [HSA.out]
      cases hsb : seesB ss s (i, j, it)
      · have HE : Hid (elF (seesB ss s) (pre ++ [(⟨(i, j, it), hmem⟩ : El ss)]) = elF (seesB ss s) pre) := Lib.hid (by rw [HQ.out, hsb]; simp)
        have HP := Lib.hid (And.intro hB6 hrow6)
        clear hB6 hrow6 hsb hp6 p60 p61
        gi_wp2
        refine ⟨HKF.out.from _, HCB6.out, ⟨u, HP.out.1, ?_, trivial⟩, HCK6.out, HBW6.out⟩
        rw [HE.out]
        exact HP.out.2
      · have HE : Hid (elF (seesB ss s) (pre ++ [(⟨(i, j, it), hmem⟩ : El ss)]) = elF (seesB ss s) pre ++ [((i : Int), (j : Int))]) := Lib.hid (by rw [HQ.out, hsb]; simp)
        obtain ⟨v', w7, hrun, hown', hgrow⟩ := append_place0 hrow6 (i : Int) (j : Int) hlen' HBW6.out.size 46
        have hown2 := hown'
        obtain ⟨g', cap', rfl⟩ := ownsRow_succ hown'
        simp [go_sem] at hrun
        obtain ⟨hv1, hv2, hr2, hk2, hb2⟩ := hB6.appended (by decide) hrow6 HBW6.out.size (Nat.le_refl _) hown2 hgrow
        have c0 := hB6.cell
        have c0' := (hB6.alloc (.cells #[.int .i64 (i : Int), .int .i64 (j : Int)] 32)).cell
        have c1 := hv1.cell
        have f1 := hv1.frozen
        have HP := Lib.hid (And.intro hv2 (And.intro hr2 (And.intro hk2 hb2)))
        clear hB6 hrow6 hown' hown2 hgrow hv1 hv2 hr2 hk2 hb2 hsb hp6
        gi_wp2
        refine ⟨(HKF.out.trans HP.out.2.2.1).from _, HCB6.out.trans (.of_below HP.out.2.2.2), ⟨_, HP.out.1, ?_, trivial⟩, HCK6.out.trans (.of_below HP.out.2.2.2), HBW6.out.trans HP.out.2.2.2⟩
        rw [HE.out, List.length_append, placeCells_snoc]
        exact HP.out.2.1
    case done =>
      rintro D xs W hD hS ⟨⟨u, hB, hrow, -⟩, hck, hbw⟩ hK
      have cB := hB.cell
      have HS2 : Hid (elF (seesB ss s) xs = filtL (seesB ss s) (placed 0 ss)) := Lib.hid (by unfold elF; rw [hS])
      clear hS
      go_wp2
      refine ⟨by simp, .inl ⟨_, _, rfl, run_takeDeferred hK, ?_⟩⟩
      have hrow2 := ownsRow_lower (ownsRow_putObj hrow (.deferred none) hK rfl) (show w.heap.size ≤ w4.heap.size from HB4.out.size)
      rw [HS2.out] at hrow2
      have hend : Below w.heap.size w (W.putObj D (.deferred none)) := HB4.out.trans ((hbw.mono HB4.out.size).trans (belowK_b (w := w) (Nat.le_refl _) W D _ _ (by have := HB4.out.size; simp at hD; omega) hK rfl rfl))
      exact ⟨_, results_tmp2 rfl _ _ _, .inr ⟨HV.out, u, rfl, by rw [Int.toNat_natCast]; exact hrow2, hend⟩⟩
    case stop =>
      rintro D c pre W _ _ h _
      exact h.elim
end Go.Proofs.YtjogfagjcpcihaaDoor
namespace Go.Proofs.YtjogfagjcpcihaaDoor
open Go Go.RowKit
theorem placed_weightH : ∀ (i : Nat) (ss : List Sc), (placed i ss).length ≤ wScopes ss
  | _, [] => by simp [placed]
  | i, s :: r => by
    have ih := placed_weightH (i + 1) r
    have h1 := wItems_eq s.items
    simp only [placed, List.length_append, List.length_map, List.length_zipIdx, wScopes]
    omega
set_option maxRecDepth 100000 in
set_option maxHeartbeats 1600000 in
theorem l1PlacesW_any (ss : List Sc) (hn6 : ss.length ≤ 1048576) (hm5 : ∀ s ∈ ss, s.items.length ≤ 1048576) (hpw : (placed 0 ss).length ≤ 1048576) (oa : Option Addr) (cap : Nat) (kind : Int) (w : World) (hc : HoldsScopes w oa ss) :
    Calls Tryd.prog 58 #[.agg #[.slice oa ss.length cap], .int .i64 kind] w (PlsGot (plsP ss kind) w) := by
  have hb0 := ((Below.refl w.heap.size w).alloc (Nat.le_refl _) (.cells #[.slice oa ss.length cap] 25)).alloc (by simp) (.cells #[] 32)
  have hR0 := (Row.new w [.slice oa ss.length cap] 25).alloc (.cells #[] 32)
  have hown0 : ((w.alloc (.cells #[.slice oa ss.length cap] 25)).alloc (.cells #[] 32)).ownsRow w.heap.size 32 2 (.slice (some ⟨w.heap.size + 1, 0, none⟩) 0 0) 0 [] := by
    have h0 := World.ownsRow_made (base := w.heap.size) (e := 32) (size := 2) (w.alloc (.cells #[.slice oa ss.length cap] 25)) #[] 0 (by simp) (by unfold maxLen; omega) rfl
    rw [World.size_alloc] at h0
    exact h0
  have HP0 : Hid (PlsAt w ((w.alloc (.cells #[.slice oa ss.length cap] 25)).alloc (.cells #[] 32)) oa cap ss.length (.slice (some ⟨w.heap.size + 1, 0, none⟩) 0 0) []) := Lib.hid ⟨hR0, hown0, hb0⟩
  have HC := Lib.hid hc
  have HM := Lib.hid hm5
  have g00 := hR0.cell (i := 0) (by rfl)
  clear hc hm5 hb0 hR0 hown0
  go_enter Tryd.func58, Tryd.ntmps58
  go_wp2
  go_loopw [5, 14] (fun v i wr => ∃ k : Nat, i = .int .i64 k ∧ k ≤ ss.length ∧ Hid (PlsAt w wr oa cap ss.length v (plsOf kind (uptoP ss k 0)))) (fun _ i _ => ss.length - (intOf i).toNat)
  case atStart => exact ⟨0, rfl, Nat.zero_le _, Lib.hid (by rw [uptoP_start]; exact HP0.out)⟩
  case round =>
    obtain ⟨k, rfl, hk, hP⟩ := hrel
    by_cases hlt : k < ss.length
    · obtain ⟨s, hs⟩ : ∃ s, ss[k]? = some s := ⟨_, List.getElem?_eq_getElem hlt⟩
      obtain ⟨bb, off, rfl, hbb, hcell⟩ := HC.out.at (by omega)
      obtain ⟨oi, ci, a0, a1, hci⟩ := hcell k s hs
      have hil := HM.out s (List.mem_of_getElem? hs)
      have b0 := (hP.out.below.cell (p := ⟨bb, off + k * 2, none⟩) hbb).trans a0
      have b1 := (hP.out.below.cell (p := ⟨bb, off + k * 2 + 1, none⟩) hbb).trans a1
      have HS := Lib.hid hs
      have HI := Lib.hid hci
      have hbx := (Below.refl wr.heap.size wr).alloc (Nat.le_refl _) (.cells #[.int .i64 s.parent, .slice oi s.items.length ci] 40)
      have HP1 := Lib.hid (hP.out.step hbx)
      have hwr := hP.out.below.size
      clear hs hcell hci a0 a1 hbx
      go_wp2
      go_loopw [5, 22] (fun v i wr => ∃ j : Nat, i = .int .i64 j ∧ j ≤ s.items.length ∧ Hid (PlsAt w wr (some ⟨bb, off, none⟩) cap ss.length v (plsOf kind (uptoP ss k j)))) (fun _ i _ => s.items.length - (intOf i).toNat)
      case atStart => exact ⟨0, rfl, Nat.zero_le _, HP1⟩
      case round =>
        obtain ⟨j, rfl, hj, hP2⟩ := hrel
        by_cases hlt2 : j < s.items.length
        · obtain ⟨x, hx⟩ : ∃ x, s.items[j]? = some x := ⟨_, List.getElem?_eq_getElem hlt2⟩
          obtain ⟨b2, o2, rfl, hb2, hcell2⟩ := HI.out.at (by omega)
          obtain ⟨x0, x1, x2⟩ := hcell2 j x hx
          have y0 := (hP2.out.below.cell (p := ⟨b2, o2 + j * 3, none⟩) hb2).trans x0
          have y1 := (hP2.out.below.cell (p := ⟨b2, o2 + j * 3 + 1, none⟩) hb2).trans x1
          have y2 := (hP2.out.below.cell (p := ⟨b2, o2 + j * 3 + 2, none⟩) hb2).trans x2
          have hbx := (Below.refl wr.heap.size wr).alloc (Nat.le_refl _) (.cells #[.int .i64 x.kind, .string x.name, .int .i64 x.scope] 42)
          have HP3 := Lib.hid (hP2.out.step hbx)
          have hpl := Nat.le_trans (plsOf_length kind (uptoP ss k j)) (Nat.le_trans (uptoP_prefix (j := j) HS.out).length_le hpw)
          have HST := Lib.hid (plsOf_snoc kind (uptoP ss k j) (k, j, x))
          have HNX := Lib.hid (uptoP_next HS.out hx)
          clear hx hcell2 x0 x1 x2 hbx
          by_cases he : x.kind = kind
          · have hq : (x.kind == kind) = true := by simpa using he
            have HE : Hid (plsOf kind (uptoP ss k (j + 1)) = plsOf kind (uptoP ss k j) ++ [((k : Int), (j : Int))]) := Lib.hid (by rw [HNX.out, HST.out, if_pos he])
            generalize hpe : plsOf kind (uptoP ss k j) = pre at hpl
            rw [hpe] at HP3 HE
            have hrow3 := HP3.out.row
            obtain ⟨i0, hi0, hz0, hz1, hz2⟩ := info_parts infoPl
            have hbs3 := HP3.out.below.size
            have hbs2 := hP2.out.below.size
            clear hpe he
            go_wp2_with (at_builtin; refine wpList_append_own _ rfl _ _ 46 rfl w.heap.size 32 i0 (.agg #[.int .i64 0, .int .i64 0]) 2 16 Tryd.underlying46 hi0 hz0 hz1 hz2 rfl (by decide) _ _ _ rfl (hrow3.alloc _) ⟨wr.heap.size + 1, 0, none⟩ 1 1 [.int .i64 (k : Int), .int .i64 (j : Int)] rfl rfl ?c1 ?c2 ?c3 ?c4 ?c5 ?_)
            all_goals try (case c1 => exact cells_new2 _ _ _ _)
            all_goals try (case c2 => first | (exact ⟨rfl, rfl⟩) | (intro u hu; simp only [List.mem_cons, List.mem_nil_iff, or_false] at hu; rcases hu with rfl | rfl <;> rfl))
            all_goals try (case c3 => unfold maxLen; omega)
            all_goals try (case c4 => omega)
            all_goals try (case c5 => first | omega | (simp only [World.size_alloc]; omega) | (simp; omega))
            intro v' w' hown' hgrow _
            have HP4 : Hid (PlsAt w w' (some ⟨bb, off, none⟩) cap ss.length v' (plsOf kind (uptoP ss k (j + 1)))) := Lib.hid {
              box := (HP3.out.box.alloc (.cells #[.int .i64 (k : Int), .int .i64 (j : Int)] 32)).grown hgrow (ownsRow_ne2 HP3.out.box (by decide) HP3.out.row)
              row := by rw [HE.out, List.length_append, placeCells_snoc]; exact hown'
              below := HP3.out.below.trans (below_append2 HP3.out.row hgrow (Nat.le_refl w.heap.size) hbs3) }
            clear hown' hgrow hrow3
            go_wp2
            go_roundw
            case rel => exact ⟨j + 1, by go_num, by omega, HP4⟩
            case measure => simp only [intOf]; omega
          · have hq : (x.kind == kind) = false := by simpa using he
            have HE : Hid (plsOf kind (uptoP ss k (j + 1)) = plsOf kind (uptoP ss k j)) := Lib.hid (by rw [HNX.out, HST.out, if_neg he, List.append_nil])
            clear he
            go_wp2
            go_roundw
            case rel => exact ⟨j + 1, by go_num, by omega, by rw [HE.out]; exact HP3⟩
            case measure => simp only [intOf]; omega
        · obtain rfl : j = s.items.length := by omega
          have HP2 : Hid (PlsAt w wr (some ⟨bb, off, none⟩) cap ss.length _ (plsOf kind (uptoP ss (k + 1) 0))) := Lib.hid (by have := hP2.out; rw [uptoP_scope HS.out] at this; exact this)
          go_wp2
          go_roundw
          case rel => exact ⟨k + 1, by go_num, by omega, HP2⟩
          case measure => simp only [intOf]; omega
    · obtain rfl : k = ss.length := by omega
      have HE := Lib.hid (uptoP_all ss)
      go_wp2
      go_ret
      exact ⟨_, rfl, by have := hP.out.row; rw [HE.out] at this; exact this, hP.out.below⟩

/-- Numbers that lie apart from a row of one's own. -/
structure AsideI (W : World) (v : Value) (ol : Option Addr) (l : List Int) : Prop where
  args : HoldsInts W ol l
  ne : ∀ g, v.ownBlock = some g → ∀ b off, ol = some ⟨b, off, none⟩ → g ≠ b
  lt : ∀ b off, ol = some ⟨b, off, none⟩ → b < W.heap.size
theorem AsideI.below {W W' : World} {v : Value} {ol : Option Addr} {l : List Int} (h : AsideI W v ol l) (hb : Below W.heap.size W W') : AsideI W' v ol l :=
  ⟨h.args.below hb, h.ne, fun b off e => Nat.lt_of_lt_of_le (h.lt b off e) hb.size⟩
theorem HoldsInts.grown {W W' : World} {oa : Option Addr} {l : List Int} {row : Option Nat} (h : HoldsInts W oa l) (hg : W.grownBy W' row) (hne : ∀ g, row = some g → ∀ b off, oa = some ⟨b, off, none⟩ → g ≠ b) : HoldsInts W' oa l := by
  rcases h with h | ⟨b, off, rfl, hlt, hp⟩
  · exact .inl h
  · have hbk := hg.block b hlt (fun e => hne b e.symm b off rfl rfl)
    exact .inr ⟨b, off, rfl, Nat.lt_of_lt_of_le hlt hg.size, fun i p hi => (World.cell?_of_block (a := ⟨b, off + i, none⟩) hbk).trans (hp i p hi)⟩
theorem AsideI.grown {W W' : World} {v v' : Value} {ol : Option Addr} {l : List Int} {x y : Int} (h : AsideI W v ol l) (hg : (W.alloc (.cells #[.int .i64 x, .int .i64 y] 32)).grownBy W' v.ownBlock) (hw : v'.ownBlock = v.ownBlock ∨ v'.ownBlock = some (W.heap.size + 1)) : AsideI W' v' ol l := by
  have h1 := h.below ((Below.refl _ _).alloc (Nat.le_refl _) (.cells #[.int .i64 x, .int .i64 y] 32))
  refine ⟨h1.args.grown hg h1.ne, fun g hgo b off e => ?_, fun b off e => Nat.lt_of_lt_of_le (h1.lt b off e) hg.size⟩
  rcases hw with hw | hw
  · exact h.ne g (hw ▸ hgo) b off e
  · have := h.lt b off e
    rw [hw] at hgo
    simp only [Option.some.injEq] at hgo
    omega
set_option maxRecDepth 100000 in
set_option maxHeartbeats 4000000 in
theorem specHiddenFrom_any (ss : List Sc) (hF : Fair ss) (hw : (placed 0 ss).length ≤ 1048576) (oa : Option Addr) (cap : Nat) (n : Int) (w : World) (hc : HoldsScopes w oa ss) :
    Calls Tryd.prog 25 #[.agg #[.slice oa ss.length cap], .int .i64 n] w (PlGot2 (HasScope ss n) (filtL (hidB ss n.toNat) (placed 0 ss)) w) := by
  have hb0 := ((Below.refl w.heap.size w).alloc (Nat.le_refl _) (.cells #[.slice oa ss.length cap] 25)).alloc (by simp) (.cells #[] 32)
  have hR0 := (Row.new w [.slice oa ss.length cap] 25).alloc (.cells #[] 32)
  have hown0 : ((w.alloc (.cells #[.slice oa ss.length cap] 25)).alloc (.cells #[] 32)).ownsRow w.heap.size 32 2 (.slice (some ⟨w.heap.size + 1, 0, none⟩) 0 0) 0 [] := by
    have h0 := World.ownsRow_made (base := w.heap.size) (e := 32) (size := 2) (w.alloc (.cells #[.slice oa ss.length cap] 25)) #[] 0 (by simp) (by unfold maxLen; omega) rfl
    rw [World.size_alloc] at h0
    exact h0
  have HP0 : Hid (PlsAt w ((w.alloc (.cells #[.slice oa ss.length cap] 25)).alloc (.cells #[] 32)) oa cap ss.length (.slice (some ⟨w.heap.size + 1, 0, none⟩) 0 0) []) := Lib.hid ⟨hR0, hown0, hb0⟩
  have C := Lib.hid (specChain_any ss hF.fits oa cap n _ (hc.below hb0 (Nat.le_refl _)))
  have HC := Lib.hid hc
  have HF := Lib.hid hF.fits
  have HFF := Lib.hid hF
  have HWW := Lib.hid hw
  have g00 := hR0.cell (i := 0) (by rfl)
  clear hF hw hc hb0 hR0 hown0
  go_enter Tryd.func25, Tryd.ntmps25
  go_wp2_with fail
  refine C.out.mono ?_
  rintro e w1 (⟨hno, gz, rfl, hb⟩ | ⟨hv, vc, rfl, hvc, hb⟩)
  · have HN := Lib.hid hno
    have HP1 := Lib.hid (HP0.out.step hb)
    have c1 := HP1.out.box.cell (i := 0) (by rfl)
    clear hno hb g00
    go_wp2_with fail
    refine (l1PlacesW_any ss HFF.out.count (fun s hs => HFF.out.items s hs) HWW.out oa cap 1 _ (HC.out.below HP1.out.below (Nat.le_refl _))).mono ?_
    rintro e w2 ⟨vl, rfl, hvl, hb2⟩
    obtain ⟨ol, cl, rfl, hap⟩ := argPlaces_of_owns hvl
    have HAP := Lib.hid hap
    have HP2 := Lib.hid (HP1.out.step hb2)
    have hpl : (plsP ss 1).length ≤ 1048576 := Nat.le_trans (plsOf_length 1 (placed 0 ss)) HWW.out
    clear hvl hap hb2 c1
    go_wp2
    go_loopw [6, 21] (fun v i wr => ∃ k : Nat, v = .slice (some ⟨w.heap.size + 1, 0, none⟩) 0 0 ∧ i = .int .i64 k ∧ k ≤ (plsP ss 1).length ∧ Hid (Below w2.heap.size w2 wr)) (fun _ i _ => (plsP ss 1).length - (intOf i).toNat)
    case atStart => exact ⟨0, rfl, rfl, Nat.zero_le _, Lib.hid (Below.refl _ _)⟩
    case round =>
      obtain ⟨k, rfl, rfl, hk, HW⟩ := hrel
      by_cases hlt : k < (plsP ss 1).length
      · obtain ⟨p, hp⟩ : ∃ p, (plsP ss 1)[k]? = some p := ⟨_, List.getElem?_eq_getElem hlt⟩
        obtain ⟨pa, pb⟩ := p
        obtain ⟨b1, f1, rfl, hb1, q1⟩ := (HAP.out.below HW.out).at (by omega)
        obtain ⟨c0, c1⟩ := q1 k _ hp
        have hbP := (Below.refl wr.heap.size wr).alloc (Nat.le_refl _) (.cells #[.int .i64 pa, .int .i64 pb] 32)
        have HW2 := Lib.hid (HW.out.trans (hbP.mono HW.out.size))
        dsimp only at c0 c1
        clear hp q1 hb1 hbP
        go_wp2_with fail
        refine (l2In_any [] (some ⟨gz, 0, none⟩) 0 pa _ (by decide) (.inl rfl)).mono ?_
        rintro e w4 ⟨rfl, hb4⟩
        have HW4 := Lib.hid (HW2.out.trans (hb4.mono HW2.out.size))
        have hdf : decide (pa ∈ ([] : List Int)) = false := by simp
        rw [hdf]
        clear hb4 c0 c1 hdf
        go_wp2
        go_roundw
        case rel => exact ⟨k + 1, rfl, by go_num, by omega, HW4⟩
        case measure => simp only [intOf]; omega
      · obtain rfl : k = (plsP ss 1).length := by omega
        go_wp2
        go_ret2
        exact .inl ⟨HN.out, _, rfl, HP2.out.below.trans (HW.out.mono HP2.out.below.size)⟩
  · have HP1 := Lib.hid (HP0.out.step hb)
    have HPS : Hid (w.heap.size + 1 + 1 ≤ w1.heap.size) := Lib.hid (by have := hb.size; simp at this; omega)
    have c1 := HP1.out.box.cell (i := 0) (by rfl)
    have HH := Lib.hid hv
    obtain ⟨oc, cc, rfl, hci⟩ := holdsInts_of_owns hvc
    have HCI : Hid (AsideI w1 (.slice (some ⟨w.heap.size + 1, 0, none⟩) 0 0) oc (natInts (chainP ss n.toNat))) := Lib.hid ⟨hci, by
      rintro g hg b off rfl
      have h1 := owns_block2 hvc
      simp only [Value.ownBlock, Option.some.injEq] at hg
      simp at h1
      omega, by
      rintro b off rfl
      exact owns_lt2 hvc⟩
    clear hb hv g00 hvc hci
    obtain ⟨s, rfl⟩ : ∃ s : Nat, n = (s : Int) := ⟨n.toNat, by have := HH.out.2.1; omega⟩
    rw [Int.toNat_natCast] at HCI ⊢
    have HSL : Hid (s < ss.length) := Lib.hid (by have := HH.out.2.2; omega)
    have hcl : (natInts (chainP ss s)).length ≤ 6 := by
      have h1 := chain_bound HH.out.1.climbs (s := s) HSL.out
      have h2 := HH.out.1.count.2
      rw [natInts_length]
      omega
    have hdl := decls_short HH.out.1
    have HFD := Lib.hid (filtL_decls (hid_kind (ss := ss) (s := s)) ss)
    go_wp2_with fail
    refine (l1Places_any ss HH.out.1.count.2 HH.out.1.five oa cap 1 _ (HC.out.below HP1.out.below (Nat.le_refl _))).mono ?_
    rintro e w2 ⟨vl, rfl, hvl, hb2⟩
    obtain ⟨ol, cl, rfl, hap⟩ := argPlaces_of_owns hvl
    have HAP : Hid (Aside w2 (.slice (some ⟨w.heap.size + 1, 0, none⟩) 0 0) ol (plsP ss 1)) := Lib.hid ⟨hap, by
      rintro g hg b off rfl
      have h1 := owns_block2 hvl
      have h2 := HP1.out.row.1
      have h3 := HPS.out
      simp only [Value.ownBlock, Option.some.injEq] at hg
      omega, by
      rintro b off rfl
      rcases hap with h0 | ⟨b', off', e, hlt, _⟩
      · exact owns_lt2 hvl
      · cases e; exact hlt⟩
    have HCI2 := Lib.hid (HCI.out.below hb2)
    have HP2 := Lib.hid (HP1.out.step hb2)
    have HNL : Hid ((plsP ss 1).length = (declsP ss).length) := Lib.hid (by rw [declsP_map, List.length_map])
    have hpl : (plsP ss 1).length ≤ 30 := by rw [HNL.out]; exact hdl
    clear hvl hap hb2 c1
    go_wp2
    go_loopw [6, 21] (fun v i wr => ∃ k : Nat, i = .int .i64 k ∧ k ≤ (plsP ss 1).length ∧ Hid (PlsAt w wr oa cap ss.length v (filtL (hidB ss s) ((declsP ss).take k)) ∧ Aside wr v ol (plsP ss 1) ∧ AsideI wr v oc (natInts (chainP ss s)))) (fun _ i _ => (plsP ss 1).length - (intOf i).toNat)
    case atStart => exact ⟨0, rfl, Nat.zero_le _, Lib.hid ⟨HP2.out, HAP.out, HCI2.out⟩⟩
    case round =>
      obtain ⟨k, rfl, hk, hP⟩ := hrel
      by_cases hlt : k < (plsP ss 1).length
      · obtain ⟨q, hq⟩ : ∃ q, (declsP ss)[k]? = some q := ⟨_, List.getElem?_eq_getElem (by have := HNL.out; omega)⟩
        obtain ⟨i, j, x⟩ := q
        have hqI : (plsP ss 1)[k]? = some ((i : Int), (j : Int)) := by rw [declsP_map, List.getElem?_map, hq]; rfl
        obtain ⟨hpl2, hkd⟩ := decl_kind (List.mem_of_getElem? hq)
        obtain ⟨b1, f1, rfl, hb1, q1⟩ := hP.out.2.1.args.at (by omega)
        obtain ⟨c0, c1⟩ := q1 k _ hqI
        have hbP := (Below.refl wr.heap.size wr).alloc (Nat.le_refl _) (.cells #[.int .i64 (i : Int), .int .i64 (j : Int)] 32)
        have HP3 := Lib.hid (hP.out.1.step hbP)
        have HB3 := Lib.hid (And.intro (hP.out.2.1.below hbP) (hP.out.2.2.below hbP))
        have RP := Lib.hid (Row.new wr [.int .i64 (i : Int), .int .i64 (j : Int)] 32)
        have HST := Lib.hid (filtL_snoc (hidB ss s) ((declsP ss).take k) (i, j, x))
        have HTK : Hid ((declsP ss).take (k + 1) = (declsP ss).take k ++ [(i, j, x)]) := Lib.hid (by rw [List.take_add_one, hq]; rfl)
        have HSB : Hid (hidB ss s (i, j, x) = (decide (i ∈ chainP ss s) && !foundB ss s (i, j, x))) := Lib.hid (by
          unfold hidB
          dsimp only at hkd
          rw [hkd]
          rfl)
        have g3 := HP3.out.box.cell (i := 0) (by rfl)
        have hfl : (filtL (hidB ss s) ((declsP ss).take k)).length ≤ 30 := by
          have h1 := filtL_length (hidB ss s) ((declsP ss).take k)
          rw [List.length_take] at h1
          omega
        have HPL2 := Lib.hid hpl2
        have hmi : decide ((i : Int) ∈ natInts (chainP ss s)) = decide (i ∈ chainP ss s) := by
          unfold natInts
          rw [Bool.eq_iff_iff, decide_eq_true_iff, decide_eq_true_iff, List.mem_map]
          constructor
          · rintro ⟨a, ha, he⟩
            have : a = i := by omega
            exact this ▸ ha
          · exact fun h => ⟨i, h, rfl⟩
        have r0 := RP.out.cell (i := 0) (v := .int .i64 (i : Int)) (by rfl)
        have C3 := Lib.hid (l2In_any (natInts (chainP ss s)) oc cc (i : Int) _ (by omega) HB3.out.2.args)
        rw [hmi] at C3
        clear hq hqI hpl2 hkd q1 hbP hb1 hmi
        dsimp only at c0 c1
        go_wp2_with fail
        refine C3.out.mono ?_
        rintro e w4 ⟨rfl, hb4⟩
        have HP4 := Lib.hid (HP3.out.step hb4)
        have HB4 := Lib.hid (And.intro (HB3.out.1.below hb4) (HB3.out.2.below hb4))
        have RP4 := Lib.hid (RP.out.below hb4 RP.out.lt)
        have p40 := RP4.out.cell (i := 0) (v := .int .i64 (i : Int)) (by rfl)
        have p41 := RP4.out.cell (i := 1) (v := .int .i64 (j : Int)) (by rfl)
        have g4 := HP4.out.box.cell (i := 0) (by rfl)
        clear hb4 g3 c0 c1 r0
        cases hch : decide (i ∈ chainP ss s)
        · have HE : Hid (filtL (hidB ss s) ((declsP ss).take (k + 1)) = filtL (hidB ss s) ((declsP ss).take k)) := Lib.hid (by rw [HTK.out, HST.out, HSB.out, hch]; simp)
          clear hch p40 p41 g4
          go_wp2
          go_roundw
          case rel => exact ⟨k + 1, by go_num, by omega, Lib.hid ⟨by rw [HE.out]; exact HP4.out, HB4.out⟩⟩
          case measure => simp only [intOf]; omega
        have C4 := Lib.hid (l5Sees_any ss HH.out.1 HF.out oa cap s HSL.out HPL2.out _ (HC.out.below HP4.out.below (Nat.le_refl _)))
        go_wp2_with fail
        refine C4.out.mono ?_
        rintro e w6 ⟨rfl, hb6⟩
        have HP6 := Lib.hid (HP4.out.step hb6)
        have HB6 := Lib.hid (And.intro (HB4.out.1.below hb6) (HB4.out.2.below hb6))
        have RP6 := Lib.hid (RP4.out.below hb6 RP4.out.lt)
        have p0 := RP6.out.cell (i := 0) (v := .int .i64 (i : Int)) (by rfl)
        have p1 := RP6.out.cell (i := 1) (v := .int .i64 (j : Int)) (by rfl)
        clear hb6 g4 p40 p41
        cases hfd : foundB ss s (i, j, x)
        rotate_left
        · have HE : Hid (filtL (hidB ss s) ((declsP ss).take (k + 1)) = filtL (hidB ss s) ((declsP ss).take k)) := Lib.hid (by rw [HTK.out, HST.out, HSB.out, hch, hfd]; simp)
          clear hfd hch
          go_wp2
          go_roundw
          case rel => exact ⟨k + 1, by go_num, by omega, Lib.hid ⟨by rw [HE.out]; exact HP6.out, HB6.out⟩⟩
          case measure => simp only [intOf]; omega
        · have HE : Hid (filtL (hidB ss s) ((declsP ss).take (k + 1)) = filtL (hidB ss s) ((declsP ss).take k) ++ [((i : Int), (j : Int))]) := Lib.hid (by rw [HTK.out, HST.out, HSB.out, hch, hfd]; rfl)
          generalize hpe : filtL (hidB ss s) ((declsP ss).take k) = pre at hfl
          rw [hpe] at HP6 HE
          have hbs6 := HP6.out.below.size
          obtain ⟨v', w', hrun, hown', hgrow, hwh⟩ := append_placeW HP6.out.row (i : Int) (j : Int) (by omega) hbs6 46
          have HRUN := Lib.hid hrun
          have HP5 : Hid (PlsAt w w' _ cap ss.length v' (filtL (hidB ss s) ((declsP ss).take (k + 1))) ∧ Aside w' v' _ (plsP ss 1) ∧ AsideI w' v' oc (natInts (chainP ss s))) := Lib.hid ⟨{
            box := (HP6.out.box.alloc (.cells #[.int .i64 (i : Int), .int .i64 (j : Int)] 32)).grown hgrow (ownsRow_ne2 HP6.out.box (by decide) HP6.out.row)
            row := by rw [HE.out, List.length_append, placeCells_snoc]; exact hown'
            below := HP6.out.below.trans (below_append2 HP6.out.row hgrow (Nat.le_refl w.heap.size) hbs6) }, HB6.out.1.grown hgrow hwh, HB6.out.2.grown hgrow hwh⟩
          clear hpe hfd hch hown' hgrow hrun hwh
          go_wp2_with (at_builtin; refine wpList_append_run rfl _ _ 46 rfl HRUN.out ?_)
          go_wp2
          go_roundw
          case rel => exact ⟨k + 1, by go_num, by omega, HP5⟩
          case measure => simp only [intOf]; omega
      · obtain rfl : k = (plsP ss 1).length := by omega
        have HE : Hid (filtL (hidB ss s) ((declsP ss).take (plsP ss 1).length) = filtL (hidB ss s) (placed 0 ss)) := Lib.hid (by rw [HNL.out, List.take_length, HFD.out])
        go_wp2
        go_ret2
        exact .inr ⟨HH.out, _, rfl, by have := hP.out.1.row; rw [HE.out] at this; exact this, hP.out.1.below⟩
end Go.Proofs.YtjogfagjcpcihaaDoor
namespace Go.Proofs.YtjogfagjcpcihaaDoor
open Go Go.RowKit Go.Maps
attribute [local go_sem] Oper.semAt_some
/-- Two sets of one's own, new. -/
theorem twoSets (W : World) (f : Nat → Bool) (h : Nat → Bool) :
    ((W.alloc (.cells #[.bool false, .bool false, .bool false, .bool false, .bool false, .bool false] 110)).alloc (.cells #[.bool false, .bool false, .bool false, .bool false, .bool false, .bool false, .bool false, .bool false, .bool false, .bool false, .bool false, .bool false, .bool false, .bool false, .bool false, .bool false, .bool false, .bool false, .bool false, .bool false, .bool false, .bool false, .bool false, .bool false, .bool false, .bool false, .bool false, .bool false, .bool false, .bool false] 101)).heap[W.heap.size]? = some (.cells #[.bool false, .bool false, .bool false, .bool false, .bool false, .bool false] 110 (0, 0)) ∧
    ((((W.alloc (.cells #[.bool false, .bool false, .bool false, .bool false, .bool false, .bool false] 110)).alloc (.cells #[.bool false, .bool false, .bool false, .bool false, .bool false, .bool false, .bool false, .bool false, .bool false, .bool false, .bool false, .bool false, .bool false, .bool false, .bool false, .bool false, .bool false, .bool false, .bool false, .bool false, .bool false, .bool false, .bool false, .bool false, .bool false, .bool false, .bool false, .bool false, .bool false, .bool false] 101)).setRow W.heap.size (setV f).toArray)).heap[W.heap.size + 1]? = some (.cells #[.bool false, .bool false, .bool false, .bool false, .bool false, .bool false, .bool false, .bool false, .bool false, .bool false, .bool false, .bool false, .bool false, .bool false, .bool false, .bool false, .bool false, .bool false, .bool false, .bool false, .bool false, .bool false, .bool false, .bool false, .bool false, .bool false, .bool false, .bool false, .bool false, .bool false] 101 (0, 0)) ∧
    Row ((((W.alloc (.cells #[.bool false, .bool false, .bool false, .bool false, .bool false, .bool false] 110)).alloc (.cells #[.bool false, .bool false, .bool false, .bool false, .bool false, .bool false, .bool false, .bool false, .bool false, .bool false, .bool false, .bool false, .bool false, .bool false, .bool false, .bool false, .bool false, .bool false, .bool false, .bool false, .bool false, .bool false, .bool false, .bool false, .bool false, .bool false, .bool false, .bool false, .bool false, .bool false] 101)).setRow W.heap.size (setV f).toArray).setRow (W.heap.size + 1) (psetL h).toArray) W.heap.size 110 (setV f) ∧
    Row ((((W.alloc (.cells #[.bool false, .bool false, .bool false, .bool false, .bool false, .bool false] 110)).alloc (.cells #[.bool false, .bool false, .bool false, .bool false, .bool false, .bool false, .bool false, .bool false, .bool false, .bool false, .bool false, .bool false, .bool false, .bool false, .bool false, .bool false, .bool false, .bool false, .bool false, .bool false, .bool false, .bool false, .bool false, .bool false, .bool false, .bool false, .bool false, .bool false, .bool false, .bool false] 101)).setRow W.heap.size (setV f).toArray).setRow (W.heap.size + 1) (psetL h).toArray) (W.heap.size + 1) 101 (psetL h) ∧
    Below W.heap.size W ((((W.alloc (.cells #[.bool false, .bool false, .bool false, .bool false, .bool false, .bool false] 110)).alloc (.cells #[.bool false, .bool false, .bool false, .bool false, .bool false, .bool false, .bool false, .bool false, .bool false, .bool false, .bool false, .bool false, .bool false, .bool false, .bool false, .bool false, .bool false, .bool false, .bool false, .bool false, .bool false, .bool false, .bool false, .bool false, .bool false, .bool false, .bool false, .bool false, .bool false, .bool false] 101)).setRow W.heap.size (setV f).toArray).setRow (W.heap.size + 1) (psetL h).toArray) := by
  have h1 : ((W.alloc (.cells #[.bool false, .bool false, .bool false, .bool false, .bool false, .bool false] 110)).alloc (.cells #[.bool false, .bool false, .bool false, .bool false, .bool false, .bool false, .bool false, .bool false, .bool false, .bool false, .bool false, .bool false, .bool false, .bool false, .bool false, .bool false, .bool false, .bool false, .bool false, .bool false, .bool false, .bool false, .bool false, .bool false, .bool false, .bool false, .bool false, .bool false, .bool false, .bool false] 101)).heap[W.heap.size]? = some (.cells #[.bool false, .bool false, .bool false, .bool false, .bool false, .bool false] 110 (0, 0)) := (Row.new W [.bool false, .bool false, .bool false, .bool false, .bool false, .bool false] 110).alloc (.cells #[.bool false, .bool false, .bool false, .bool false, .bool false, .bool false, .bool false, .bool false, .bool false, .bool false, .bool false, .bool false, .bool false, .bool false, .bool false, .bool false, .bool false, .bool false, .bool false, .bool false, .bool false, .bool false, .bool false, .bool false, .bool false, .bool false, .bool false, .bool false, .bool false, .bool false] 101)
  have h2 : ((W.alloc (.cells #[.bool false, .bool false, .bool false, .bool false, .bool false, .bool false] 110)).alloc (.cells #[.bool false, .bool false, .bool false, .bool false, .bool false, .bool false, .bool false, .bool false, .bool false, .bool false, .bool false, .bool false, .bool false, .bool false, .bool false, .bool false, .bool false, .bool false, .bool false, .bool false, .bool false, .bool false, .bool false, .bool false, .bool false, .bool false, .bool false, .bool false, .bool false, .bool false] 101)).heap[W.heap.size + 1]? = some (.cells #[.bool false, .bool false, .bool false, .bool false, .bool false, .bool false, .bool false, .bool false, .bool false, .bool false, .bool false, .bool false, .bool false, .bool false, .bool false, .bool false, .bool false, .bool false, .bool false, .bool false, .bool false, .bool false, .bool false, .bool false, .bool false, .bool false, .bool false, .bool false, .bool false, .bool false] 101 (0, 0)) := by
    have := Row.new (W.alloc (.cells #[.bool false, .bool false, .bool false, .bool false, .bool false, .bool false] 110)) [.bool false, .bool false, .bool false, .bool false, .bool false, .bool false, .bool false, .bool false, .bool false, .bool false, .bool false, .bool false, .bool false, .bool false, .bool false, .bool false, .bool false, .bool false, .bool false, .bool false, .bool false, .bool false, .bool false, .bool false, .bool false, .bool false, .bool false, .bool false, .bool false, .bool false] 101
    rw [World.size_alloc] at this
    exact this
  have h3 : ((((W.alloc (.cells #[.bool false, .bool false, .bool false, .bool false, .bool false, .bool false] 110)).alloc (.cells #[.bool false, .bool false, .bool false, .bool false, .bool false, .bool false, .bool false, .bool false, .bool false, .bool false, .bool false, .bool false, .bool false, .bool false, .bool false, .bool false, .bool false, .bool false, .bool false, .bool false, .bool false, .bool false, .bool false, .bool false, .bool false, .bool false, .bool false, .bool false, .bool false, .bool false] 101)).setRow W.heap.size (setV f).toArray)).heap[W.heap.size + 1]? = some (.cells #[.bool false, .bool false, .bool false, .bool false, .bool false, .bool false, .bool false, .bool false, .bool false, .bool false, .bool false, .bool false, .bool false, .bool false, .bool false, .bool false, .bool false, .bool false, .bool false, .bool false, .bool false, .bool false, .bool false, .bool false, .bool false, .bool false, .bool false, .bool false, .bool false, .bool false] 101 (0, 0)) := (setRow_other _ _ _ _ (by omega)).trans h2
  refine ⟨h1, h3, ?_, setRow_heap _ _ _ _ _ _ h3, ?_⟩
  · exact (setRow_other _ _ _ _ (by omega)).trans (setRow_heap _ _ _ _ _ _ h1)
  · exact ((((Below.refl _ _).alloc (Nat.le_refl _) _).alloc (by simp) _).trans (below_setRow _ _ _ (Nat.le_refl _))).trans (below_setRow _ _ _ (by omega))
theorem setV_one (f : Nat → Bool) : (setV f).toArray.all (·.oneCell') = true := by
  have h : ∀ v ∈ setV f, v.oneCell' = true := by
    intro v hv
    simp only [setV, List.mem_cons, List.not_mem_nil, or_false] at hv
    rcases hv with rfl | rfl | rfl | rfl | rfl | rfl <;> rfl
  rw [Array.all_eq_true]
  intro i hi
  have h1 := h _ (List.getElem_mem (l := setV f) (n := i) (by simpa using hi))
  simpa using h1
theorem setV_info (f : Nat → Bool) : (Tryd.prog.info? 110).map (·.size) = some (setV f).toArray.size := by
  show _ = some 6
  kernel_rfl
set_option maxRecDepth 100000 in
set_option maxHeartbeats 8000000 in
theorem implHiddenFrom_any (ss : List Sc) (hF : Fair ss) (oa : Option Addr) (cap : Nat) (n : Int) (w : World) (hc : HoldsScopes w oa ss) (hE : NodeErrs w) :
    Calls Tryd.prog 23 #[.agg #[.slice oa ss.length cap], .int .i64 n] w (PlGot (HasScope ss n) (filtL (hidB ss n.toNat) (placed 0 ss)) w) := by
  have hb0 := (Below.refl w.heap.size w).alloc (Nat.le_refl _) (.cells #[.slice oa ss.length cap] 25)
  have C := Lib.hid (nodeOf_any ss hF oa cap n _ (hc.below hb0 (Nat.le_refl _)) (hE.at hb0))
  have HB0 := Lib.hid hb0
  clear hF hc hE hb0
  refine (callsIn_wide (n := 6)).1 ?_
  refine callsIn_of_wp_marks Tryd.func23 rfl trivial ?_ rfl
  simp only [Tryd.ntmps23, List.size_toArray, List.length_cons, List.length_nil, Nat.reduceAdd, Nat.reduceSub, Array.replicate_succ, Array.replicate_zero, List.push_toArray, List.append_toArray, List.nil_append, List.cons_append]
  refine wpIn_wide.2 ?_
  go_wp2_with fail
  refine C.out.mono ?_
  rintro e w1 (⟨hv, ⟨tp, p, rfl⟩, hb⟩ | ⟨hv, s, d, T, M1, M2, v, ds, rfl, hs, hd, rfl, hb, hT⟩)
  · have HV := Lib.hid hv
    have HB := Lib.hid (HB0.out.trans (hb.mono HB0.out.size))
    clear hv hb
    go_wp2
    exact ⟨_, results_tmp2 rfl _ _ _, .inl ⟨HV.out, rfl, HB.out⟩⟩
  · have HV : Hid (HasScope ss (s : Int)) := Lib.hid ⟨hv, by omega, by omega⟩
    have HB := Lib.hid (HB0.out.trans (hb.mono HB0.out.size))
    obtain ⟨B, HT⟩ : ∃ B, Hid (TreeIs w1 B T M1 M2 v ds ss) := ⟨_, Lib.hid hT⟩
    have HD := Lib.hid hd
    clear hv hb hT hd hs
    go_wp2_with fail
    refine (chainSet_any HV.out.1 HT.out HD.out).mono ?_
    rintro e w10 ⟨rfl, hb10⟩
    have HT10 := Lib.hid (HT.out.below hb10)
    have HB10 := Lib.hid (HB.out.trans (hb10.mono HB.out.size))
    clear hb10
    go_wp2_with fail
    refine (lookupIn_any T _).mono ?_
    rintro e w2 ⟨rfl, hR, hM, hb2⟩
    have HB2 := Lib.hid (HB10.out.trans (hb2.mono HB10.out.size))
    have HLW := Lib.hid (LookW.mk (HT10.out.below hb2) hR (memo_nil hM) (by obtain ⟨_, h⟩ := HT10.out.items; have := h.lt; omega) (by obtain ⟨_, h⟩ := HT10.out.mods; have := h.lt; omega))
    clear hR hM hb2
    go_wp2_with fail
    refine (seen_any HV.out.1 HLW.out HD.out).mono ?_
    rintro e w3 ⟨rfl, hl3⟩
    have HB3 := Lib.hid (HB2.out.trans (hl3.turns.below HB10.out.size HB10.out.size HB2.out.size))
    obtain ⟨hz6, hz30, hr6, hr30, hbS⟩ := twoSets w3 (fun i => decide (i ∈ chainP ss s)) (seenUp ss s 26)
    have HT4 := Lib.hid (hl3.look.tree.below hbS)
    have HB4 := Lib.hid (HB3.out.trans (hbS.mono HB3.out.size))
    have HS6 := Lib.hid hr6
    have HS4 := Lib.hid hr30
    clear hl3 hbS hr6 hr30
    go_upto_region 5 with (first
      | (refine wpList_store_row rfl 110 _ _ rfl w3.heap.size (setV fun i => decide (i ∈ chainP ss s)).toArray rfl rfl 110 _ hz6 (setV_info _) rfl (setV_one _) ?_)
      | (refine wpList_store_row rfl 101 _ _ rfl (w3.heap.size + 1) (psetL (seenUp ss s 26)).toArray rfl rfl 101 _ hz30 (psetL_info _) (by simp [psetL_length]) (psetL_one _) ?_))
    clear hz6 hz30
    obtain ⟨g, hg⟩ : ∃ g, w3.heap.size + 1 = g := ⟨_, rfl⟩
    obtain ⟨g6, hg6⟩ : ∃ g, w3.heap.size = g := ⟨_, rfl⟩
    generalize ((((w3.alloc (.cells #[.bool false, .bool false, .bool false, .bool false, .bool false, .bool false] 110)).alloc (.cells #[.bool false, .bool false, .bool false, .bool false, .bool false, .bool false, .bool false, .bool false, .bool false, .bool false, .bool false, .bool false, .bool false, .bool false, .bool false, .bool false, .bool false, .bool false, .bool false, .bool false, .bool false, .bool false, .bool false, .bool false, .bool false, .bool false, .bool false, .bool false, .bool false, .bool false] 101)).setRow w3.heap.size (setV fun i => decide (i ∈ chainP ss s)).toArray).setRow (w3.heap.size + 1) (psetL (seenUp ss s 26)).toArray) = w4 at *
    rw [hg] at *
    rw [hg6] at *
    go_upto_region 6 with (fail)
    go_wp2_with fail
    refine (all_any _ _).mono ?_
    rintro e w5 ⟨rfl, rfl⟩
    go_wp2
    refine (wpIn_wide (n := 6)).1 ?_
    gi_wp2
    have hBx : Below w4.heap.size w4 ((w4.alloc (.cells #[.slice none 0 0] 46)).alloc (.cells #[.pointer (some ⟨T, 0, none⟩)] 77)) := ((Below.refl _ _).alloc (Nat.le_refl _) _).alloc (by simp) _
    have bL := (Boxed.new w4 46 (.slice none 0 0)).alloc (.cells #[.pointer (some ⟨T, 0, none⟩)] 77)
    have bN := Boxed.new (w4.alloc (.cells #[.slice none 0 0] 46)) 77 (.pointer (some ⟨T, 0, none⟩))
    rw [World.size_alloc] at bN
    have hsm := HV.out.1.small
    refine wpIn_rangeFunc_ownH rfl (by omega) (gf := 101) (lb := #[.pointer (some ⟨w4.heap.size + 1, 0, none⟩)]) rfl trivial (enters_of Tryd.func101 (by kernel_rfl) rfl)
      (all_stops 5 (by omega) (w4.heap.size + 1) _ T M1 M2 v ds ss w4 _ HT4.out.tree HT4.out.hold (HT4.out.ne HV.out.1) hsm.len hsm.items (.of_below hBx) bN.cell) CellsKept.trans (fun W l o o' _ h1 h2 h3 => cellsKept_b (w := w4) W l o o' (by simp at *; omega) h1 h2 h3) (Below.refl _ _) (fun _ => rfl)
      (fun pre W => (∃ u, Boxed W w4.heap.size 46 u ∧ W.ownsRow w4.heap.size 32 2 u (elF (hidB ss s) pre).length (placeCells (elF (hidB ss s) pre)) ∧ True) ∧ (CellsKept w4.heap.size w4 W ∧ Below w4.heap.size w4 W))
      (fun _ _ _ => False)
      (OwnFrom.and (Own.from (holdsRow_own w4.heap.size w4.heap.size 46 32 2 (fun pre : List (El ss) => (elF (hidB ss s) pre).length) (fun pre => placeCells (elF (hidB ss s) pre)) (fun _ _ => True)) _) (OwnFrom.and (cellsKept_own w4) (ownFrom_below (Nat.le_refl _) (by simp; omega))))
      (fun _ _ _ _ _ hs _ _ => hs)
      ⟨⟨_, bL, World.ownsRow_nil _ _ _ _, trivial⟩, .of_below hBx, hBx⟩
      (fun x a' W => ∃ Bp Bx, Row W Bp 32 [.int .i64 (x.1.1 : Int), .int .i64 (x.1.2.1 : Int)] ∧ Row W Bx 42 [.int .i64 x.1.2.2.kind, .string x.1.2.2.name, .int .i64 x.1.2.2.scope] ∧ w4.heap.size < Bp ∧ w4.heap.size < Bx ∧
        a' = { tmps := #[.agg #[.slice oa ss.length cap], .int .i64 (s : Int), .pointer (some ⟨w.heap.size, 0, none⟩), undef, .slice none 0 0, .bool false, .pointer (some ⟨T, 0, none⟩), .pointer (some ⟨d.blk, 0, none⟩), .nilIface, .pointer (some ⟨g6, 0, none⟩), .pointer (some ⟨g, 0, none⟩), .pointer (some ⟨w4.heap.size, 0, none⟩), .pointer (some ⟨Bp, 0, none⟩), .pointer (some ⟨Bx, 0, none⟩), .tuple #[.pointer (some ⟨T, 0, none⟩), .pointer (some ⟨d.blk, 0, none⟩), .nilIface], .agg #[.slice oa ss.length cap], .int .i64 (s : Int), .tuple #[.pointer (some ⟨T, 0, none⟩), .pointer (some ⟨d.blk, 0, none⟩), .nilIface], .pointer (some ⟨T, 0, none⟩), .pointer (some ⟨d.blk, 0, none⟩), .nilIface, .nilIface, .bool false, .pointer (some ⟨d.blk, 0, none⟩), .agg (setV fun i => decide (i ∈ chainP ss s)).toArray, .pointer (some ⟨T, 0, none⟩), .pointer (some ⟨w10.heap.size + 1, 0, none⟩), .pointer (some ⟨d.blk, 0, none⟩), .agg (psetL (seenUp ss s 26)).toArray, .pointer (some ⟨T, 0, none⟩), .func (.func 101) #[] #[.pointer (some ⟨w4.heap.size + 1, 0, none⟩)], .agg #[.int .i64 (x.1.1 : Int), .int .i64 (x.1.2.1 : Int)], .agg #[.int .i64 x.1.2.2.kind, .string x.1.2.2.name, .int .i64 x.1.2.2.scope], undef, undef, undef, undef, undef, undef, undef, undef, undef, undef, undef, undef, undef, undef, undef, undef, undef, undef, undef], defers := [] })
      (fun x a' _ X Y row hs hg hr => by obtain ⟨Bp, Bx, h1, h2, h3, h4, h5⟩ := hs; exact ⟨Bp, Bx, h1.kept_cells hg (fun r e => (hr r e).2), h2.kept_cells hg (fun r e => (hr r e).2), h3, h4, h5⟩)
      ?assign ?body ?done ?stop
    case assign =>
      rintro l pre x W K hi hK
      dsimp only [elArgs]
      gi_wp2
      have ha : Below W.heap.size W ((W.alloc (.cells #[.int .i64 (x.1.1 : Int), .int .i64 (x.1.2.1 : Int)] 32)).alloc (.cells #[.int .i64 x.1.2.2.kind, .string x.1.2.2.name, .int .i64 x.1.2.2.scope] 42)) := ((Below.refl _ _).alloc (Nat.le_refl _) _).alloc (by simp) _
      obtain ⟨⟨u, hB, hrow, -⟩, hck, hbw⟩ := hi
      have hlt := hB.lt
      refine hK _ _ (((KeepsOthers.alloc _ _).trans (KeepsOthers.alloc _ _)).from _) ((CellsKept.of_below ha).mono hbw.size) ⟨⟨u, (hB.alloc _).alloc _, (hrow.alloc _).alloc _, trivial⟩, hck.trans ((CellsKept.of_below ha).mono hbw.size), hbw.trans (ha.mono hbw.size)⟩ ⟨W.heap.size, W.heap.size + 1, ?_, ?_, hlt, by omega, rfl⟩
      · exact (Row.new W [.int .i64 (x.1.1 : Int), .int .i64 (x.1.2.1 : Int)] 32).alloc _
      · have := Row.new (W.alloc (.cells #[.int .i64 (x.1.1 : Int), .int .i64 (x.1.2.1 : Int)] 32)) [.int .i64 x.1.2.2.kind, .string x.1.2.2.name, .int .i64 x.1.2.2.scope] 42
        rw [World.size_alloc] at this
        exact this
    case body =>
      rintro l pre x a' W hl _ ⟨⟨u, hB, hrow, -⟩, hck, hbw⟩ ⟨Bp, Bx, hp, hx, hlp, hlx, rfl⟩ hlen
      obtain ⟨⟨i, j, it⟩, hmem⟩ := x
      have HQ : Hid (elF (hidB ss s) (pre ++ [(⟨(i, j, it), hmem⟩ : El ss)]) = elF (hidB ss s) pre ++ if hidB ss s (i, j, it) = true then [((i : Int), (j : Int))] else []) := Lib.hid (by unfold elF; rw [List.map_append]; exact filtL_snoc _ _ _)
      dsimp only at hp hx ⊢
      have hlen' : (elF (hidB ss s) pre).length < 1000000 := by
        have h1 := filtL_length (hidB ss s) (pre.map Subtype.val)
        have h2 := placed_bound 0 ss 6 5 HV.out.1.count.2 HV.out.1.five
        rw [List.length_map] at h1
        unfold elF
        omega
      have p0 := hp.cell (i := 0) (by rfl)
      have p1 := hp.cell (i := 1) (by rfl)
      have x0 := hx.cell (i := 0) (by rfl)
      have hsm2 := placed_small HV.out.1 hmem
      have hr6 : Row W g6 110 (setV fun i => decide (i ∈ chainP ss s)) := hck.block g6 _ _ _ HS6.out.lt HS6.out
      have k0 := hr6.cell (setV_get _ i hsm2.1)
      have hi6 : (i : Int) < 6 := by have := hsm2.1; omega
      have HI := Lib.hid (And.intro hck hbw)
      have HBR := Lib.hid (And.intro hB hrow)
      have HPR := Lib.hid hp
      by_cases hk1 : it.kind = 1
      · have hq1 : (it.kind == 1) = true := by simpa using hk1
        cases hch : decide (i ∈ chainP ss s)
        · have HE : Hid (elF (hidB ss s) (pre ++ [(⟨(i, j, it), hmem⟩ : El ss)]) = elF (hidB ss s) pre) := Lib.hid (by rw [HQ.out]; unfold hidB; dsimp only; rw [hch]; simp)
          rw [hch] at k0
          clear hB hrow hck hbw hp hx hsm2 hr6 hk1 hch
          gi_wp2_with fail
          refine ⟨trivial, ?_⟩
          gi_wp2
          refine ⟨KeepsFrom.refl _ _, CellsKept.refl _ _, ⟨u, HBR.out.1, ?_, trivial⟩, HI.out.1, HI.out.2⟩
          rw [HE.out]
          exact HBR.out.2
        · rw [hch] at k0
          have HSA : Hid (seenUp ss s 26 (i * 5 + j) = foundB ss s (i, j, it)) := Lib.hid (by
            rw [seen_at HV.out.1 s hmem]
            unfold seesB
            dsimp only
            rw [hq1, Bool.true_and])
          have HHB : Hid (hidB ss s (i, j, it) = !foundB ss s (i, j, it)) := Lib.hid (by
            unfold hidB
            dsimp only
            rw [hq1, hch, Bool.true_and, Bool.true_and])
          have C2 := Lib.hid (CallsIn.inRound l ((callsIn_wide (n := 3)).2 (phas_any (f := seenUp ss s 26) (show Row W g 101 (psetL (seenUp ss s 26)) from hck.block g _ _ _ HS4.out.lt HS4.out) hsm2.1 hsm2.2)))
          clear hB hrow hck hbw hp hx hsm2 hr6 hk1 hch
          gi_wp2_with fail
          refine ⟨trivial, ?_⟩
          gi_at_call 66
          refine C2.out.mono ?_
          rintro e w6 ⟨rfl, hb6⟩
          have hB6 : Boxed w6 w4.heap.size 46 u := (hb6.block _ HBR.out.1.lt).trans HBR.out.1
          have hrow6 := ownsRow_below HBR.out.2 hb6
          have hp6 := HPR.out.below hb6 HPR.out.lt
          have p60 := hp6.cell (i := 0) (by rfl)
          have p61 := hp6.cell (i := 1) (by rfl)
          have HKF := Lib.hid (keepsOthers_of_below hb6)
          have HBW6 := Lib.hid (HI.out.2.trans (hb6.mono HI.out.2.size))
          have HCK6 := Lib.hid (HI.out.1.trans ((CellsKept.of_below hb6).mono HI.out.2.size))
          have HCB6 := Lib.hid ((CellsKept.of_below hb6).mono HI.out.2.size)
          clear hb6 p0 p1 x0 k0
          rw [HSA.out]
          cases hsb : foundB ss s (i, j, it)
          rotate_left
          · have HE : Hid (elF (hidB ss s) (pre ++ [(⟨(i, j, it), hmem⟩ : El ss)]) = elF (hidB ss s) pre) := Lib.hid (by rw [HQ.out, HHB.out, hsb]; simp)
            have HP := Lib.hid (And.intro hB6 hrow6)
            clear hB6 hrow6 hsb hp6 p60 p61
            gi_wp2
            refine ⟨HKF.out.from _, HCB6.out, ⟨u, HP.out.1, ?_, trivial⟩, HCK6.out, HBW6.out⟩
            rw [HE.out]
            exact HP.out.2
          · have HE : Hid (elF (hidB ss s) (pre ++ [(⟨(i, j, it), hmem⟩ : El ss)]) = elF (hidB ss s) pre ++ [((i : Int), (j : Int))]) := Lib.hid (by rw [HQ.out, HHB.out, hsb]; simp)
            obtain ⟨v', w7, hrun, hown', hgrow⟩ := append_place0 hrow6 (i : Int) (j : Int) hlen' HBW6.out.size 46
            have hown2 := hown'
            obtain ⟨g', cap', rfl⟩ := ownsRow_succ hown'
            simp [go_sem] at hrun
            obtain ⟨hv1, hv2, hr2, hk2, hb2⟩ := hB6.appended (by decide) hrow6 HBW6.out.size (Nat.le_refl _) hown2 hgrow
            have c0 := hB6.cell
            have c0' := (hB6.alloc (.cells #[.int .i64 (i : Int), .int .i64 (j : Int)] 32)).cell
            have c1 := hv1.cell
            have f1 := hv1.frozen
            have HP := Lib.hid (And.intro hv2 (And.intro hr2 (And.intro hk2 hb2)))
            clear hB6 hrow6 hown' hown2 hgrow hv1 hv2 hr2 hk2 hb2 hsb hp6
            gi_wp2
            refine ⟨(HKF.out.trans HP.out.2.2.1).from _, HCB6.out.trans (.of_below HP.out.2.2.2), ⟨_, HP.out.1, ?_, trivial⟩, HCK6.out.trans (.of_below HP.out.2.2.2), HBW6.out.trans HP.out.2.2.2⟩
            rw [HE.out, List.length_append, placeCells_snoc]
            exact HP.out.2.1
      · have hq1 : (it.kind == 1) = false := by simpa using hk1
        have HE : Hid (elF (hidB ss s) (pre ++ [(⟨(i, j, it), hmem⟩ : El ss)]) = elF (hidB ss s) pre) := Lib.hid (by rw [HQ.out]; unfold hidB; dsimp only; rw [hq1]; simp)
        clear hB hrow hck hbw hp hx hsm2 hr6 hk1 k0
        gi_wp2_with fail
        refine ⟨trivial, ?_⟩
        gi_wp2
        refine ⟨KeepsFrom.refl _ _, CellsKept.refl _ _, ⟨u, HBR.out.1, ?_, trivial⟩, HI.out.1, HI.out.2⟩
        rw [HE.out]
        exact HBR.out.2
    case done =>
      rintro D xs W hD hS ⟨⟨u, hB, hrow, -⟩, hck, hbw⟩ hK
      have cB := hB.cell
      have HS2 : Hid (elF (hidB ss s) xs = filtL (hidB ss s) (placed 0 ss)) := Lib.hid (by unfold elF; rw [hS])
      clear hS
      go_wp2
      refine ⟨by simp, .inl ⟨_, _, rfl, run_takeDeferred hK, ?_⟩⟩
      have hrow2 := ownsRow_lower (ownsRow_putObj hrow (.deferred none) hK rfl) (show w.heap.size ≤ w4.heap.size from HB4.out.size)
      rw [HS2.out] at hrow2
      have hend : Below w.heap.size w (W.putObj D (.deferred none)) := HB4.out.trans ((hbw.mono HB4.out.size).trans (belowK_b (w := w) (Nat.le_refl _) W D _ _ (by have := HB4.out.size; simp at hD; omega) hK rfl rfl))
      exact ⟨_, results_tmp2 rfl _ _ _, .inr ⟨HV.out, u, rfl, by rw [Int.toNat_natCast]; exact hrow2, hend⟩⟩
    case stop =>
      rintro D c pre W _ _ h _
      exact h.elim
end Go.Proofs.YtjogfagjcpcihaaDoor
namespace Go.Proofs.YtjogfagjcpcihaaDoor
open Go Go.RowKit
set_option maxRecDepth 100000 in
set_option maxHeartbeats 1600000 in
theorem sgIn_any (ps : List (Int × Int)) (oa : Option Addr) (cap : Nat) (a b : Int) (w : World) (hn : ps.length ≤ 1000000) (ha : ArgPlaces w oa ps) :
    Calls Tryd.prog 30 #[.slice oa ps.length cap, .agg #[.int .i64 a, .int .i64 b]] w fun e w' => e = .returned (.bool (decide ((a, b) ∈ ps))) ∧ Below w.heap.size w w' := by
  have hb0 := (Below.refl w.heap.size w).alloc (Nat.le_refl _) (.cells #[.int .i64 a, .int .i64 b] 32)
  have RP := Lib.hid (Row.new w [.int .i64 a, .int .i64 b] 32)
  have HB0 := Lib.hid hb0
  have HA := Lib.hid ha
  clear hb0 ha
  go_enter Tryd.func30, Tryd.ntmps30
  go_wp2
  go_loopw [9] (fun i wr => ∃ k : Nat, i = .int .i64 k ∧ k ≤ ps.length ∧ Hid ((a, b) ∉ ps.take k) ∧ Hid (Below w.heap.size w wr ∧ Row wr w.heap.size 32 [.int .i64 a, .int .i64 b])) (fun i _ => ps.length - (intOf i).toNat)
  case atStart => exact ⟨0, rfl, Nat.zero_le _, Lib.hid (by simp), Lib.hid ⟨HB0.out, RP.out⟩⟩
  case round =>
    obtain ⟨k, rfl, hk, HN, HW⟩ := hrel
    by_cases hlt : k < ps.length
    · obtain ⟨p, hp⟩ : ∃ p, ps[k]? = some p := ⟨_, List.getElem?_eq_getElem hlt⟩
      obtain ⟨c, d⟩ := p
      obtain ⟨b1, f1, rfl, hb1, q1⟩ := (HA.out.below HW.out.1).at (by omega)
      obtain ⟨c0, c1⟩ := q1 k _ hp
      have HM := Lib.hid hp
      have hbP := (Below.refl wr.heap.size wr).alloc (Nat.le_refl _) (.cells #[.int .i64 c, .int .i64 d] 32)
      have HW2 := Lib.hid (And.intro (HW.out.1.trans (hbP.mono HW.out.1.size)) (HW.out.2.below hbP HW.out.2.lt))
      have r0 := HW2.out.2.cell (i := 0) (v := .int .i64 a) (by rfl)
      have r1 := HW2.out.2.cell (i := 1) (v := .int .i64 b) (by rfl)
      dsimp only at c0 c1
      have HSN : Hid ((a, b) ≠ (c, d) → (a, b) ∉ ps.take (k + 1)) := Lib.hid (by
        intro h
        rw [List.take_add_one, hp]
        simp only [Option.toList_some, List.mem_append, List.mem_singleton, not_or]
        exact ⟨HN.out, h⟩)
      clear hp hbP q1 hb1
      by_cases h1 : c = a
      · subst h1
        by_cases h2 : d = b
        · subst h2
          have HD : Hid (decide ((c, d) ∈ ps) = true) := Lib.hid (decide_eq_true (List.mem_of_getElem? HM.out))
          go_wp2
          go_ret
          exact ⟨by rw [HD.out]; rfl, HW2.out.1⟩
        · have HNX := Lib.hid (HSN.out (fun e => h2 (Prod.mk.inj e).2.symm))
          go_wp2
          go_roundw
          case rel => exact ⟨k + 1, by go_num, by omega, HNX, HW2⟩
          case measure => simp only [intOf]; omega
      · have HNX := Lib.hid (HSN.out (fun e => h1 (Prod.mk.inj e).1.symm))
        go_wp2
        go_roundw
        case rel => exact ⟨k + 1, by go_num, by omega, HNX, HW2⟩
        case measure => simp only [intOf]; omega
    · obtain rfl : k = ps.length := by omega
      have HD : Hid (decide ((a, b) ∈ ps) = false) := Lib.hid (decide_eq_false (by have := HN.out; rwa [List.take_length] at this))
      go_wp2
      go_ret
      exact ⟨by rw [HD.out]; rfl, HW.out.1⟩
end Go.Proofs.YtjogfagjcpcihaaDoor
namespace Go.Proofs.YtjogfagjcpcihaaDoor
open Go Go.RowKit
theorem take_ne {α : Type} {ps qs : List α} {k : Nat} {p q : α} (hp : ps[k]? = some p) (hq : qs[k]? = some q) (h : p ≠ q) : ps ≠ qs := by
  rintro rfl
  rw [hp] at hq
  exact h (Option.some.inj hq)
theorem take_next {α : Type} {ps qs : List α} {k : Nat} {p : α} (h : ps.take k = qs.take k) (hp : ps[k]? = some p) (hq : qs[k]? = some p) : ps.take (k + 1) = qs.take (k + 1) := by
  rw [List.take_add_one, List.take_add_one, hp, hq, h]
theorem take_all {α : Type} {ps qs : List α} {k : Nat} (h : ps.take k = qs.take k) (hk : k = min ps.length qs.length) : ps = qs ↔ ps.length = qs.length := by
  refine ⟨fun e => by rw [e], fun e => ?_⟩
  rw [List.take_of_length_le (by omega), List.take_of_length_le (by omega)] at h
  exact h
/-- What the laws' comparisons answer. -/
def SameGot (eq : Prop) (w : World) (e : Ending) (w' : World) : Prop := ∃ b : Bool, e = .returned (.bool b) ∧ (b = true ↔ eq) ∧ Below w.heap.size w w'
set_option maxRecDepth 100000 in
set_option maxHeartbeats 1600000 in
theorem sgPlaces_any (ps qs : List (Int × Int)) (oa ob : Option Addr) (ca cb : Nat) (w : World) (hn : ps.length ≤ 1000000) (hm : qs.length ≤ 1000000) (ha : ArgPlaces w oa ps) (hb : ArgPlaces w ob qs) :
    Calls Tryd.prog 26 #[.slice oa ps.length ca, .slice ob qs.length cb] w (SameGot (ps = qs) w) := by
  have HA := Lib.hid ha
  have HB := Lib.hid hb
  clear ha hb
  go_enter Tryd.func26, Tryd.ntmps26
  go_wp2
  · go_loopw [11] (fun i wr => ∃ k : Nat, i = .int .i64 k ∧ k ≤ qs.length ∧ Hid (ps.take k = qs.take k) ∧ Hid (Below w.heap.size w wr)) (fun i _ => qs.length - (intOf i).toNat)
    case atStart => exact ⟨0, rfl, Nat.zero_le _, Lib.hid rfl, Lib.hid (Below.refl _ _)⟩
    case round =>
      obtain ⟨k, rfl, hk, HT, HW⟩ := hrel
      by_cases hlt : k < qs.length
      · have hl1 : k < ps.length := by omega
        have hl2 : k < qs.length := by omega
        obtain ⟨p, hp⟩ : ∃ p, ps[k]? = some p := ⟨_, List.getElem?_eq_getElem hl1⟩
        obtain ⟨q, hq⟩ : ∃ q, qs[k]? = some q := ⟨_, List.getElem?_eq_getElem hl2⟩
        obtain ⟨b1, f1, rfl, hb1, c1⟩ := (HA.out.below HW.out).at (by omega)
        obtain ⟨b2, f2, rfl, hb2, c2⟩ := (HB.out.below HW.out).at (by omega)
        obtain ⟨p0, p1⟩ := c1 k p hp
        obtain ⟨q0, q1⟩ := c2 k q hq
        have HP := Lib.hid hp
        have HQ := Lib.hid hq
        have HD := Lib.hid (HW.out.drew)
        have p0' := cell_drew p0
        have p1' := cell_drew p1
        have q0' := cell_drew q0
        have q1' := cell_drew q1
        clear c1 c2 hp hq p0 p1 q0 q1 hb1 hb2
        obtain ⟨a, b⟩ := p
        obtain ⟨c, d⟩ := q
        by_cases he : a = c ∧ b = d
        · obtain ⟨rfl, rfl⟩ := he
          have hab : ((a == a) && (b == b)) = true := by simp
          have HN := Lib.hid (take_next HT.out HP.out HQ.out)
          go_upto_region 4 with (fail)
          go_region
          all_goals go_wp2
          all_goals go_roundw
          all_goals first
            | exact ⟨k + 1, by go_num, by omega, HN, HD⟩
            | (simp only [intOf]; omega)
        · have HNE : Hid ((false = true) ↔ ps = qs) := Lib.hid ⟨fun h => (by cases h), fun h => absurd h (take_ne HP.out HQ.out (fun e => he ⟨by have := congrArg Prod.fst e; exact this, by have := congrArg Prod.snd e; exact this⟩))⟩
          by_cases h1 : a = c
          · subst h1
            have h2 : ¬ b = d := fun h => he ⟨rfl, h⟩
            clear he
            go_upto_region 4 with (fail)
            go_region
            all_goals go_wp2
            all_goals go_ret
            all_goals exact ⟨_, rfl, HNE.out, HD.out⟩
          · clear he
            go_upto_region 4 with (fail)
            go_region
            all_goals go_wp2
            all_goals go_ret
            all_goals exact ⟨_, rfl, HNE.out, HD.out⟩
      · have hkk : k = min ps.length qs.length := by omega
        have HE := Lib.hid (take_all HT.out hkk)
        clear hkk
        go_wp2
        go_ret
        exact ⟨_, rfl, by rw [HE.out]; simp; constructor <;> intro h <;> omega, HW.out⟩
  · go_loopw [11] (fun i wr => ∃ k : Nat, i = .int .i64 k ∧ k ≤ ps.length ∧ Hid (ps.take k = qs.take k) ∧ Hid (Below w.heap.size w wr)) (fun i _ => ps.length - (intOf i).toNat)
    case atStart => exact ⟨0, rfl, Nat.zero_le _, Lib.hid rfl, Lib.hid (Below.refl _ _)⟩
    case round =>
      obtain ⟨k, rfl, hk, HT, HW⟩ := hrel
      by_cases hlt : k < ps.length
      · have hl1 : k < ps.length := by omega
        have hl2 : k < qs.length := by omega
        obtain ⟨p, hp⟩ : ∃ p, ps[k]? = some p := ⟨_, List.getElem?_eq_getElem hl1⟩
        obtain ⟨q, hq⟩ : ∃ q, qs[k]? = some q := ⟨_, List.getElem?_eq_getElem hl2⟩
        obtain ⟨b1, f1, rfl, hb1, c1⟩ := (HA.out.below HW.out).at (by omega)
        obtain ⟨b2, f2, rfl, hb2, c2⟩ := (HB.out.below HW.out).at (by omega)
        obtain ⟨p0, p1⟩ := c1 k p hp
        obtain ⟨q0, q1⟩ := c2 k q hq
        have HP := Lib.hid hp
        have HQ := Lib.hid hq
        have HD := Lib.hid (HW.out.drew)
        have p0' := cell_drew p0
        have p1' := cell_drew p1
        have q0' := cell_drew q0
        have q1' := cell_drew q1
        clear c1 c2 hp hq p0 p1 q0 q1 hb1 hb2
        obtain ⟨a, b⟩ := p
        obtain ⟨c, d⟩ := q
        by_cases he : a = c ∧ b = d
        · obtain ⟨rfl, rfl⟩ := he
          have hab : ((a == a) && (b == b)) = true := by simp
          have HN := Lib.hid (take_next HT.out HP.out HQ.out)
          go_upto_region 4 with (fail)
          go_region
          all_goals go_wp2
          all_goals go_roundw
          all_goals first
            | exact ⟨k + 1, by go_num, by omega, HN, HD⟩
            | (simp only [intOf]; omega)
        · have HNE : Hid ((false = true) ↔ ps = qs) := Lib.hid ⟨fun h => (by cases h), fun h => absurd h (take_ne HP.out HQ.out (fun e => he ⟨by have := congrArg Prod.fst e; exact this, by have := congrArg Prod.snd e; exact this⟩))⟩
          by_cases h1 : a = c
          · subst h1
            have h2 : ¬ b = d := fun h => he ⟨rfl, h⟩
            clear he
            go_upto_region 4 with (fail)
            go_region
            all_goals go_wp2
            all_goals go_ret
            all_goals exact ⟨_, rfl, HNE.out, HD.out⟩
          · clear he
            go_upto_region 4 with (fail)
            go_region
            all_goals go_wp2
            all_goals go_ret
            all_goals exact ⟨_, rfl, HNE.out, HD.out⟩
      · have hkk : k = min ps.length qs.length := by omega
        have HE := Lib.hid (take_all HT.out hkk)
        clear hkk
        go_wp2
        go_ret
        exact ⟨_, rfl, by rw [HE.out]; simp; constructor <;> intro h <;> omega, HW.out⟩
end Go.Proofs.YtjogfagjcpcihaaDoor
namespace Go.Proofs.YtjogfagjcpcihaaDoor
open Go Go.RowKit
set_option maxRecDepth 100000 in
set_option maxHeartbeats 1600000 in
theorem sgSame_any (ps qs : List Int) (oa ob : Option Addr) (ca cb : Nat) (w : World) (hn : ps.length ≤ 1000000) (hm : qs.length ≤ 1000000) (ha : HoldsInts w oa ps) (hb : HoldsInts w ob qs) :
    Calls Tryd.prog 19 #[.slice oa ps.length ca, .slice ob qs.length cb] w (SameGot (ps = qs) w) := by
  have HA := Lib.hid ha
  have HB := Lib.hid hb
  clear ha hb
  go_enter Tryd.func19, Tryd.ntmps19
  go_wp2
  · go_loopw [11] (fun i wr => ∃ k : Nat, i = .int .i64 k ∧ k ≤ qs.length ∧ Hid (ps.take k = qs.take k) ∧ Hid (Below w.heap.size w wr)) (fun i _ => qs.length - (intOf i).toNat)
    case atStart => exact ⟨0, rfl, Nat.zero_le _, Lib.hid rfl, Lib.hid (Below.refl _ _)⟩
    case round =>
      obtain ⟨k, rfl, hk, HT, HW⟩ := hrel
      by_cases hlt : k < qs.length
      · have hl1 : k < ps.length := by omega
        have hl2 : k < qs.length := by omega
        obtain ⟨p, hp⟩ : ∃ p, ps[k]? = some p := ⟨_, List.getElem?_eq_getElem hl1⟩
        obtain ⟨q, hq⟩ : ∃ q, qs[k]? = some q := ⟨_, List.getElem?_eq_getElem hl2⟩
        obtain ⟨b1, f1, rfl, hb1, c1⟩ := (HA.out.below HW.out).at (by omega)
        obtain ⟨b2, f2, rfl, hb2, c2⟩ := (HB.out.below HW.out).at (by omega)
        have p0 := c1 k p hp
        have q0 := c2 k q hq
        have HP := Lib.hid hp
        have HQ := Lib.hid hq
        have HD := Lib.hid (HW.out.drew)
        have p0' := cell_drew p0
        have q0' := cell_drew q0
        clear c1 c2 hp hq p0 q0 hb1 hb2
        by_cases he : p = q
        · subst he
          have hab : (p != p) = false := by simp
          have HN := Lib.hid (take_next HT.out HP.out HQ.out)
          go_upto_region 4 with (fail)
          go_region
          all_goals go_wp2
          all_goals go_roundw
          all_goals first
            | exact ⟨k + 1, by go_num, by omega, HN, HD⟩
            | (simp only [intOf]; omega)
        · have HNE : Hid ((false = true) ↔ ps = qs) := Lib.hid ⟨fun h => (by cases h), fun h => absurd h (take_ne HP.out HQ.out he)⟩
          have hab : (p != q) = true := by simpa using he
          clear he
          go_upto_region 4 with (fail)
          go_region
          all_goals go_wp2
          all_goals go_ret
          all_goals exact ⟨_, rfl, HNE.out, HD.out⟩
      · have hkk : k = min ps.length qs.length := by omega
        have HE := Lib.hid (take_all HT.out hkk)
        clear hkk
        go_wp2
        go_ret
        exact ⟨_, rfl, by rw [HE.out]; simp; constructor <;> intro h <;> omega, HW.out⟩
  · go_loopw [11] (fun i wr => ∃ k : Nat, i = .int .i64 k ∧ k ≤ ps.length ∧ Hid (ps.take k = qs.take k) ∧ Hid (Below w.heap.size w wr)) (fun i _ => ps.length - (intOf i).toNat)
    case atStart => exact ⟨0, rfl, Nat.zero_le _, Lib.hid rfl, Lib.hid (Below.refl _ _)⟩
    case round =>
      obtain ⟨k, rfl, hk, HT, HW⟩ := hrel
      by_cases hlt : k < ps.length
      · have hl1 : k < ps.length := by omega
        have hl2 : k < qs.length := by omega
        obtain ⟨p, hp⟩ : ∃ p, ps[k]? = some p := ⟨_, List.getElem?_eq_getElem hl1⟩
        obtain ⟨q, hq⟩ : ∃ q, qs[k]? = some q := ⟨_, List.getElem?_eq_getElem hl2⟩
        obtain ⟨b1, f1, rfl, hb1, c1⟩ := (HA.out.below HW.out).at (by omega)
        obtain ⟨b2, f2, rfl, hb2, c2⟩ := (HB.out.below HW.out).at (by omega)
        have p0 := c1 k p hp
        have q0 := c2 k q hq
        have HP := Lib.hid hp
        have HQ := Lib.hid hq
        have HD := Lib.hid (HW.out.drew)
        have p0' := cell_drew p0
        have q0' := cell_drew q0
        clear c1 c2 hp hq p0 q0 hb1 hb2
        by_cases he : p = q
        · subst he
          have hab : (p != p) = false := by simp
          have HN := Lib.hid (take_next HT.out HP.out HQ.out)
          go_upto_region 4 with (fail)
          go_region
          all_goals go_wp2
          all_goals go_roundw
          all_goals first
            | exact ⟨k + 1, by go_num, by omega, HN, HD⟩
            | (simp only [intOf]; omega)
        · have HNE : Hid ((false = true) ↔ ps = qs) := Lib.hid ⟨fun h => (by cases h), fun h => absurd h (take_ne HP.out HQ.out he)⟩
          have hab : (p != q) = true := by simpa using he
          clear he
          go_upto_region 4 with (fail)
          go_region
          all_goals go_wp2
          all_goals go_ret
          all_goals exact ⟨_, rfl, HNE.out, HD.out⟩
      · have hkk : k = min ps.length qs.length := by omega
        have HE := Lib.hid (take_all HT.out hkk)
        clear hkk
        go_wp2
        go_ret
        exact ⟨_, rfl, by rw [HE.out]; simp; constructor <;> intro h <;> omega, HW.out⟩
end Go.Proofs.YtjogfagjcpcihaaDoor
namespace Go.Proofs.YtjogfagjcpcihaaDoor
open Go Go.RowKit Go.ChangeShapes Go.WideShapes Go.Deep
theorem cells5 : Tryd.prog.cellsOf 5 = 1 := by kernel_rfl
set_option maxRecDepth 100000 in
theorem open_code {H : Type} {enc : TypeId × Value → H} {W : World} {base : Nat} {v1 : Value} {d1 : DataW H} {p1 : List MemPlace} (hval : Value.okWide Tryd.prog W .any base 22 v1) (h1 : DataW.Trod enc Tryd.prog W 0 (fun _ => true) true 22 v1 d1 p1) :
    ∃ oa len cap, v1 = .slice oa len cap ∧ HoldsBytes W oa len ∧ len ≤ cap := by
  obtain ⟨a1, len, cap, rfl⟩ := okWide_slice Tryd.underlying22 hval
  obtain ⟨fuel, hf⟩ := h1
  rcases open_ints Tryd.underlying22 Tryd.underlying5 cells5 hf with ⟨hcs, hx⟩ | ⟨a, len', cap', zs, hcs, _, hl, hm, hz, hx, hcell, hwz⟩
  · simp [Value.cells] at hcs
    obtain ⟨rfl, rfl, rfl⟩ := hcs
    exact ⟨none, 0, 0, rfl, .inl rfl, Nat.le_refl _⟩
  · simp [Value.cells] at hcs
    obtain ⟨rfl, rfl, rfl⟩ := hcs
    simp only [if_true] at hz
    refine ⟨some a, len, cap, rfl, ?_, hl⟩
    by_cases h0 : len = 0
    · exact .inl h0
    · obtain ⟨ab, ao, spot⟩ := a
      have hspot : spot = none := by simpa [Addr.add] using World.cell?_spot (hcell 0 (by omega))
      subst hspot
      have c0 := hcell 0 (by omega)
      refine .inr ⟨ab, ao, rfl, ?_, fun j hj => ?_⟩
      · rw [Addr.add_lit] at c0
        exact World.block_lt_of_cell? _ _ c0
      · have hcj := hcell j (by omega)
        rw [Addr.add_lit] at hcj
        have hb := range_u8 hwz j
        rw [← List.getD_eq_getElem?_getD] at hb
        obtain ⟨z, hz'⟩ : ∃ z, zs.getD j 0 = z := ⟨_, rfl⟩
        rw [hz'] at hb hcj
        have hzz : ((z.toNat : Nat) : Int) = z := Int.toNat_of_nonneg hb.1
        exact ⟨z.toNat, by omega, by rw [hcj, hzz]⟩
end Go.Proofs.YtjogfagjcpcihaaDoor
namespace Go.Proofs.YtjogfagjcpcihaaDoor
open Go Go.RowKit Sg
theorem sgPlaces_self (ps : List (Int × Int)) (oa ob : Option Addr) (ca cb : Nat) (w : World) (hn : ps.length ≤ 1000000) (ha : ArgPlaces w oa ps) (hb : ArgPlaces w ob ps) :
    Calls Tryd.prog 26 #[.slice oa ps.length ca, .slice ob ps.length cb] w fun e w' => e = .returned (.bool true) ∧ Below w.heap.size w w' :=
  (sgPlaces_any ps ps oa ob ca cb w hn hn ha hb).mono (by rintro e w' ⟨t, rfl, ht, hb⟩; exact ⟨by rw [ht.2 rfl], hb⟩)
theorem placed_sc {ss : List Sc} {q : Nat × Nat × It} (hq : q ∈ placed 0 ss) : ∃ s, ss[q.1]? = some s ∧ s.items[q.2.1]? = some q.2.2 := by
  obtain ⟨s, _, h1, h2⟩ := mem_placed.1 hq
  exact ⟨s, by simpa using h1, h2⟩
theorem placed_inj {ss : List Sc} {q q' : Nat × Nat × It} (hq : q ∈ placed 0 ss) (hq' : q' ∈ placed 0 ss) (h : plOf q = plOf q') : q = q' := by
  obtain ⟨i, j, x⟩ := q
  obtain ⟨i', j', x'⟩ := q'
  unfold plOf at h
  simp only [Prod.mk.injEq] at h
  obtain rfl : i = i' := by have := h.1; omega
  obtain rfl : j = j' := by have := h.2; omega
  obtain ⟨s, h1, h2⟩ := placed_sc hq
  obtain ⟨s', h3, h4⟩ := placed_sc hq'
  dsimp only at h1 h2 h3 h4
  rw [h1] at h3
  cases h3
  rw [h2] at h4
  cases h4
  rfl
theorem mem_filtL {ss : List Sc} {f : Nat × Nat × It → Bool} {q : Nat × Nat × It} (hq : q ∈ placed 0 ss) : decide (plOf q ∈ filtL f (placed 0 ss)) = f q := by
  rw [Bool.eq_iff_iff, decide_eq_true_iff]
  unfold filtL
  constructor
  · intro h
    obtain ⟨q', h1, h2⟩ := List.mem_map.1 h
    obtain ⟨h3, h4⟩ := List.mem_filter.1 h1
    rw [← placed_inj h3 hq h2]
    exact h4
  · intro h
    exact List.mem_map.2 ⟨q, List.mem_filter.2 ⟨hq, h⟩, rfl⟩
theorem filter_apart {α : Type} {f g h : α → Bool} (h1 : ∀ x, f x = true → h x = true ∧ g x = false) (h2 : ∀ x, g x = true → h x = true) : ∀ l : List α, (l.filter f).length + (l.filter g).length ≤ (l.filter h).length
  | [] => by simp
  | x :: r => by
    have ih := filter_apart h1 h2 r
    cases hf : f x with
    | true =>
      obtain ⟨k1, k2⟩ := h1 x hf
      rw [List.filter_cons_of_pos hf, List.filter_cons_of_neg (by rw [k2]; decide), List.filter_cons_of_pos k1]
      simp only [List.length_cons]
      omega
    | false =>
      cases hg : g x with
      | true =>
        rw [List.filter_cons_of_neg (by rw [hf]; decide), List.filter_cons_of_pos hg, List.filter_cons_of_pos (h2 x hg)]
        simp only [List.length_cons]
        omega
      | false =>
        rw [List.filter_cons_of_neg (by rw [hf]; decide), List.filter_cons_of_neg (by rw [hg]; decide)]
        have := List.length_filter_le h r
        by_cases hh : h x = true
        · rw [List.filter_cons_of_pos hh]
          simp only [List.length_cons]
          omega
        · rw [List.filter_cons_of_neg hh]
          exact ih
theorem seen_hidden (ss : List Sc) (s : Nat) : (filtL (seesB ss s) (placed 0 ss)).length + (filtL (hidB ss s) (placed 0 ss)).length ≤ (plsP ss 1).length := by
  have h := filter_apart (f := seesB ss s) (g := hidB ss s) (h := fun q => q.2.2.kind == 1) (fun q h => by
    unfold seesB at h
    unfold hidB
    simp only [Bool.and_eq_true] at h
    rw [h.1, h.2]
    simp) (fun q h => by
    unfold hidB at h
    simp only [Bool.and_eq_true] at h
    exact h.1) (placed 0 ss)
  unfold filtL
  rw [List.length_map, List.length_map]
  have e : (plsP ss 1).length = ((placed 0 ss).filter fun q => q.2.2.kind == 1).length := by
    rw [declsP_map, List.length_map]
    rfl
  rw [e]
  exact h
theorem take_next_memS {l : List Nat} {j m s : Nat} (h : l[j]? = some m) : decide (s ∈ l.take (j + 1)) = (decide (s ∈ l.take j) || ((s : Int) == (m : Int))) := by
  rw [List.take_add_one, h]
  simp only [Option.toList_some, List.mem_append, List.mem_singleton]
  rw [Bool.eq_iff_iff]
  simp only [decide_eq_true_iff, Bool.or_eq_true, beq_iff_eq]
  constructor
  · rintro (h1 | h1)
    · exact .inl h1
    · exact .inr (by omega)
  · rintro (h1 | h1)
    · exact .inl h1
    · exact .inr (by omega)
set_option maxRecDepth 100000 in
set_option maxHeartbeats 8000000 in
theorem lawSeen {w : World} {oa : Option Addr} {len cap : Nat} (h : HoldsBytes w oa len) (hlc : len ≤ cap) (hE : NameErrs w) :
    Calls Tryd.prog 4 #[.slice oa len cap] w fun e w' => e = .returned (.bool true) ∧ Below w.heap.size w w' := by
  by_cases hn : (1048576 : Int) < (len : Int)
  · clear h hE
    go_enter Tryd.func4, Tryd.ntmps4
    go_wp2
    go_ret
    exact ⟨rfl, Below.refl _ _⟩
  · have C := Lib.hid (drawSeenFrom_any h (by omega) hlc)
    have HE := Lib.hid hE
    clear h hE hlc
    go_enter Tryd.func4, Tryd.ntmps4
    go_wp2_with fail
    refine C.out.mono ?_
    rintro e w1 ⟨ss, ov, cv, s, rfl, hh, hl, hsI, hb1⟩
    have HF := Lib.hid (hl.fair (by omega))
    have HW := Lib.hid hl
    have hbA := (Below.refl w1.heap.size w1).alloc (Nat.le_refl _) (.cells #[.slice ov ss.length cv] 25)
    have HA := Lib.hid (belowS hb1 hbA)
    have HC := Lib.hid (hh.below hbA (Nat.le_refl _))
    have RB := Lib.hid (Row.new w1 [.slice ov ss.length cv] 25)
    have HEA := Lib.hid (HE.out.at HA.out)
    clear hh hl hsI hb1 hbA
    go_wp2_with fail
    refine (implSeenFrom_any ss HF.out ov cv s _ HC.out HEA.out.nodes).mono ?_
    intro e w2 hgot
    obtain ⟨o1, c1, xs, b, rfl, hv1, ha1, -, hb2⟩ := hgot.val
    have V1 := Lib.hid hv1
    have A1 := Lib.hid ha1
    have X2 := Lib.hid hb2
    have r2 := (RB.out.below X2.out RB.out.lt).cell (i := 0) (v := .slice ov ss.length cv) (by rfl)
    clear hgot hv1 ha1 hb2
    go_wp2_with fail
    refine (implHiddenFrom_any ss HF.out ov cv s _ (HC.out.below X2.out (Nat.le_refl _)) (HEA.out.at X2.out).nodes).mono ?_
    intro e w3 hgot
    obtain ⟨o2, c2, hs, f, rfl, hv2, ha2, -, hb3⟩ := hgot.val
    have V2 := Lib.hid hv2
    have A2 := Lib.hid ha2
    have A1a := Lib.hid (A1.out.below hb3)
    have X3 := Lib.hid (belowS X2.out hb3)
    have r3 := (RB.out.below X3.out RB.out.lt).cell (i := 0) (v := .slice ov ss.length cv) (by rfl)
    clear hgot hv2 ha2 hb3 r2
    go_wp2_with fail
    refine (specSeenFrom_any ss HF.out.fits ov cv s _ (HC.out.below X3.out (Nat.le_refl _))).mono ?_
    intro e w4 hgot
    obtain ⟨o3, c3, ys, b', rfl, hv3, ha3, hb4⟩ := hgot.val
    obtain ⟨rfl, rfl⟩ := hv3.same V1.out
    have A3 := Lib.hid ha3
    have A1b := Lib.hid (A1a.out.below hb4)
    have A2b := Lib.hid (A2.out.below hb4)
    have X4 := Lib.hid (belowS X3.out hb4)
    have r4 := (RB.out.below X4.out RB.out.lt).cell (i := 0) (v := .slice ov ss.length cv) (by rfl)
    clear hgot hv3 ha3 hb4 r3
    go_wp2_with fail
    refine (specHiddenFrom_any ss HF.out (Nat.le_trans (placed_bound 0 ss 210 210 HW.out.count HW.out.items) (by omega)) ov cv s _ (HC.out.below X4.out (Nat.le_refl _))).mono ?_
    intro e w5 hgot
    obtain ⟨o4, c4, zs, f', rfl, hv4, ha4, hb5⟩ := hgot.val
    obtain ⟨rfl, rfl⟩ := hv4.same V2.out
    have A4 := Lib.hid ha4
    have A3c := Lib.hid (A3.out.below hb5)
    have A1c := Lib.hid (A1b.out.below hb5)
    have A2c := Lib.hid (A2b.out.below hb5)
    have X5 := Lib.hid (belowS X4.out hb5)
    have hyl : ys.length ≤ 1000 := by
      rcases V1.out with ⟨_, rfl, _⟩ | ⟨hok, rfl, _⟩
      · simp
      · have := filtL_short hok.1 (seesB ss s.toNat); omega
    have hzl : zs.length ≤ 1000 := by
      rcases V2.out with ⟨_, rfl, _⟩ | ⟨hok, rfl, _⟩
      · simp
      · have := filtL_short hok.1 (hidB ss s.toNat); omega
    have hbb : (b' == b') = true := by simp
    clear hgot hv4 ha4 hb5 r4
    go_wp2_with fail
    refine (sgPlaces_self ys o1 o3 c1 c3 _ (by omega) A1c.out A3c.out).mono ?_
    rintro e w6 ⟨rfl, hb6⟩
    have A1d := Lib.hid (A1c.out.below hb6)
    have A3d := Lib.hid (A3c.out.below hb6)
    have A2d := Lib.hid (A2c.out.below hb6)
    have A4d := Lib.hid (A4.out.below hb6)
    have X6 := Lib.hid (belowS X5.out hb6)
    clear hb6
    go_wp2_with fail
    refine (sgPlaces_self zs o2 o4 c2 c4 _ (by omega) A2d.out A4d.out).mono ?_
    rintro e w7 ⟨rfl, hb7⟩
    have A1e := Lib.hid (A1d.out.below hb7)
    have A3e := Lib.hid (A3d.out.below hb7)
    have A2e := Lib.hid (A2d.out.below hb7)
    have A4e := Lib.hid (A4d.out.below hb7)
    have X7 := Lib.hid (belowS X6.out hb7)
    have r7 := (RB.out.below X7.out RB.out.lt).cell (i := 0) (v := .slice ov ss.length cv) (by rfl)
    clear hb7
    by_cases hS : HasScope ss s
    · obtain ⟨s', rfl⟩ : ∃ s' : Nat, s = (s' : Int) := ⟨s.toNat, by have := hS.2.1; omega⟩
      obtain ⟨hy, rfl⟩ : ys = filtL (seesB ss s') (placed 0 ss) ∧ b' = true := by
        rcases V1.out with ⟨h1, _⟩ | ⟨_, h2, h3⟩
        · exact absurd hS h1
        · exact ⟨by rw [h2, Int.toNat_natCast], h3⟩
      obtain ⟨hz, rfl⟩ : zs = filtL (hidB ss s') (placed 0 ss) ∧ f' = true := by
        rcases V2.out with ⟨h1, _⟩ | ⟨_, h2, h3⟩
        · exact absurd hS h1
        · exact ⟨by rw [h2, Int.toNat_natCast], h3⟩
      have HS := Lib.hid hS
      have HYZ := Lib.hid (And.intro hy hz)
      have HSL : Hid (s' < ss.length) := Lib.hid (by have := hS.2.2; omega)
      clear hS V1 V2 hy hz
      go_wp2_with fail
      refine (implPls_any ss HF.out ov cv 1 _ (HC.out.below X7.out (Nat.le_refl _)) (HEA.out.at X7.out).nodes.trees).mono ?_
      intro e w8 hgot
      obtain ⟨o8, c8, ps, b8, rfl, hv8, ha8, -, hb8⟩ := hgot.val
      obtain rfl : ps = plsP ss 1 := by
        rcases hv8 with ⟨h1, _⟩ | ⟨_, h2, _⟩
        · exact absurd (show kindOk ss 1 from ⟨HS.out.1, by decide⟩) h1
        · exact h2
      have P8 := Lib.hid ha8
      have X8 := Lib.hid (belowS X7.out hb8)
      have A1f := Lib.hid (A1e.out.below hb8)
      have A2f := Lib.hid (A2e.out.below hb8)
      have r8 := (RB.out.below X8.out RB.out.lt).cell (i := 0) (v := .slice ov ss.length cv) (by rfl)
      clear hgot hv8 ha8 hb8 r7
      go_wp2_with fail
      refine (implChain_any ss HF.out ov cv (s' : Int) _ (HC.out.below X8.out (Nat.le_refl _)) (HEA.out.at X8.out).nodes).mono ?_
      intro e w9 hgot
      obtain ⟨o9, c9, ks, b9, rfl, hv9, ha9, -, hb9⟩ := hgot.val
      obtain rfl : ks = natInts (chainP ss s') := by
        rcases hv9 with ⟨h1, _⟩ | ⟨_, h2, _⟩
        · exact absurd HS.out h1
        · rw [h2, Int.toNat_natCast]
      have K9 := Lib.hid ha9
      have X9 := Lib.hid (belowS X8.out hb9)
      have P9 := Lib.hid (P8.out.below hb9)
      have A1g := Lib.hid (A1f.out.below hb9)
      have A2g := Lib.hid (A2f.out.below hb9)
      have HNL : Hid ((plsP ss 1).length = (declsP ss).length) := Lib.hid (by rw [declsP_map, List.length_map])
      have HNK : Hid ((natInts (chainP ss s')).length = (chainP ss s').length) := Lib.hid (natInts_length _)
      have hpl : (plsP ss 1).length ≤ 30 := by rw [HNL.out]; exact decls_short HS.out.1
      have hkl : (natInts (chainP ss s')).length ≤ 10 := by
        have h1 := chain_length HS.out.1.climbs s'
        have h2 := HS.out.1.count.2
        have h3 := HSL.out
        rw [HNK.out]
        omega
      clear hgot hv9 ha9 hb9 r8
      go_wp2
      go_loopw [113] (fun i wr => ∃ k : Nat, i = .int .i64 k ∧ k ≤ (plsP ss 1).length ∧ Hid (Below w9.heap.size w9 wr)) (fun i _ => (plsP ss 1).length - (intOf i).toNat)
      case atStart => exact ⟨0, rfl, Nat.zero_le _, Lib.hid (Below.refl _ _)⟩
      case round =>
        obtain ⟨k, rfl, hk, HW9⟩ := hrel
        by_cases hlt : k < (plsP ss 1).length
        · obtain ⟨q, hq⟩ : ∃ q, (declsP ss)[k]? = some q := ⟨_, List.getElem?_eq_getElem (by have := HNL.out; omega)⟩
          obtain ⟨i, j, x⟩ := q
          have hqI : (plsP ss 1)[k]? = some ((i : Int), (j : Int)) := by rw [declsP_map, List.getElem?_map, hq]; rfl
          obtain ⟨hpl2, hkd⟩ := decl_kind (List.mem_of_getElem? hq)
          obtain ⟨b1, f1, rfl, hb1, q1⟩ := (P9.out.below HW9.out).at (by omega)
          obtain ⟨c0, c1'⟩ := q1 k _ hqI
          have hbP := (Below.refl wr.heap.size wr).alloc (Nat.le_refl _) (.cells #[.int .i64 (i : Int), .int .i64 (j : Int)] 32)
          have XP := Lib.hid (belowS HW9.out hbP)
          have XQ := Lib.hid (belowS X9.out XP.out)
          have RP := Lib.hid (Row.new wr [.int .i64 (i : Int), .int .i64 (j : Int)] 32)
          have g8 := (RB.out.below XQ.out RB.out.lt).cell (i := 0) (v := .slice ov ss.length cv) (by rfl)
          have hlt3 := HS.out.1.small.lt hpl2
          have HWI : Hid ((Lit.int .i64 (i : Int)).wf = true) := Lib.hid (wf_small hlt3.1)
          have HWJ : Hid ((Lit.int .i64 (j : Int)).wf = true) := Lib.hid (wf_small hlt3.2)
          have HIT : Hid (itemAtP ss (i : Int) (j : Int) = some x) := Lib.hid (by obtain ⟨sq, hsq, hxq⟩ := placed_sc hpl2; dsimp only at hsq hxq; rw [itemAtP_nat hsq]; exact hxq)
          have HQ := Lib.hid hpl2
          have HK1 := Lib.hid hkd
          have HOK : Hid (ownOk ss (s' : Int) x.name) := Lib.hid ⟨HS.out, by
            have h2 := item_of HS.out.1 hpl2
            unfold itemB at h2
            simp only [Bool.and_eq_true] at h2
            exact h2.1.1⟩
          dsimp only at c0 c1'
          clear hq hqI hpl2 hkd q1 hb1 hbP hlt3
          go_wp2_with fail
          refine (implItemAt_any ss HF.out ov cv (i : Int) (j : Int) HWI.out HWJ.out _ (HC.out.below XQ.out (Nat.le_refl _)) (HEA.out.at XQ.out).nodes.trees).mono ?_
          rintro e wI ⟨y, oky, rfl, hcase, hbI⟩
          obtain rfl : y = x := by
            rcases hcase with ⟨_, h2, _⟩ | ⟨h2, _⟩
            · rw [HIT.out] at h2
              exact (Option.some.inj h2).symm
            · exact absurd ⟨HS.out.1, by rw [HIT.out]; rfl⟩ h2
          have hbJ := hbI.trans ((Below.refl wI.heap.size wI).alloc (Nat.le_refl _) (.cells #[.int .i64 y.kind, .string y.name, .int .i64 y.scope] 42) |>.mono hbI.size)
          have XI := Lib.hid (belowS XP.out hbJ)
          have XJ := Lib.hid (belowS XQ.out hbJ)
          have RI := Lib.hid (Row.new wI [.int .i64 y.kind, .string y.name, .int .i64 y.scope] 42)
          have RPI := Lib.hid (RP.out.below hbJ RP.out.lt)
          have i1 := RI.out.cell (i := 1) (v := .string y.name) (by rfl)
          have g9 := (RB.out.below XJ.out RB.out.lt).cell (i := 0) (v := .slice ov ss.length cv) (by rfl)
          clear hcase hbI hbJ g8 c0 c1'
          unfold itV
          go_wp2_with fail
          refine (implLookUp_any ss HF.out ov cv (s' : Int) y.name _ (HC.out.below XJ.out (Nat.le_refl _)) (HEA.out.at XJ.out)).mono ?_
          intro e wL hgot
          obtain ⟨oL, cL, ls, bL, rfl, hvL, haL, -, hbL⟩ := hgot.val
          obtain hls : ls = (lookP ss s' y.name).places := by
            rcases hvL with ⟨h1, _⟩ | ⟨_, h2, _⟩
            · exact absurd HOK.out h1
            · rw [h2, Int.toNat_natCast]
          have XL := Lib.hid (belowS XI.out hbL)
          have XM := Lib.hid (belowS XJ.out hbL)
          have RPL := Lib.hid (RPI.out.below hbL RPI.out.lt)
          have PL := Lib.hid haL
          have hll : ls.length ≤ 25 := by rw [hls]; exact lookF_length HS.out.1 _ _
          have HFB : Hid (decide (((i : Int), (j : Int)) ∈ ls) = foundB ss s' (i, j, y)) := Lib.hid (by rw [hls]; rfl)
          have HSB : Hid (decide (((i : Int), (j : Int)) ∈ ys) = foundB ss s' (i, j, y)) := Lib.hid (by
            have h1 := mem_filtL (f := seesB ss s') HQ.out
            rw [← HYZ.out.1] at h1
            have h2 : seesB ss s' (i, j, y) = foundB ss s' (i, j, y) := by
              have hk : y.kind = 1 := HK1.out
              unfold seesB
              dsimp only
              rw [hk]
              rfl
            rw [← h2, ← h1]
            rfl)
          have HHB : Hid (decide (((i : Int), (j : Int)) ∈ zs) = (decide (i ∈ chainP ss s') && !foundB ss s' (i, j, y))) := Lib.hid (by
            have h1 := mem_filtL (f := hidB ss s') HQ.out
            rw [← HYZ.out.2] at h1
            have h2 : hidB ss s' (i, j, y) = (decide (i ∈ chainP ss s') && !foundB ss s' (i, j, y)) := by
              have hk : y.kind = 1 := HK1.out
              unfold hidB
              dsimp only
              rw [hk]
              rfl
            rw [← h2, ← h1]
            rfl)
          clear hgot hvL haL hbL hls i1 g9
          go_wp2
          go_loopw [23, 133] (fun v i' wr => ∃ m : Nat, i' = .int .i64 m ∧ m ≤ (natInts (chainP ss s')).length ∧ v = .bool (decide (i ∈ (chainP ss s').take m)) ∧ Hid (Below wL.heap.size wL wr)) (fun _ i' _ => (natInts (chainP ss s')).length - (intOf i').toNat)
          case atStart => exact ⟨0, rfl, Nat.zero_le _, by simp, Lib.hid (Below.refl _ _)⟩
          case round =>
            obtain ⟨m, rfl, hm, rfl, HWL⟩ := hrel
            by_cases hltm : m < (natInts (chainP ss s')).length
            · obtain ⟨t, ht⟩ : ∃ t, (chainP ss s')[m]? = some t := ⟨_, List.getElem?_eq_getElem (by have := HNK.out; omega)⟩
              have htI : (natInts (chainP ss s'))[m]? = some (t : Int) := by unfold natInts; rw [List.getElem?_map, ht]; rfl
              obtain ⟨b2, f2, rfl, hb2, q2⟩ := (K9.out.below (belowS XL.out HWL.out)).at (by omega)
              have e1 := q2 m _ htI
              have HNX := Lib.hid (take_next_memS (s := i) ht)
              have p0 := (RPL.out.below HWL.out RPL.out.lt).cell (i := 0) (v := .int .i64 (i : Int)) (by rfl)
              clear ht htI hb2 q2
              cases hq : decide (i ∈ (chainP ss s').take m)
              · have HQQ := Lib.hid hq
                clear hq
                go_wp2
                go_roundw
                case rel => exact ⟨m + 1, by go_num, by omega, by rw [HNX.out, HQQ.out, Bool.false_or], HWL⟩
                case measure => simp only [intOf]; omega
              · have HQQ := Lib.hid hq
                clear hq
                go_wp2
                go_roundw
                case rel => exact ⟨m + 1, by go_num, by omega, by rw [HNX.out, HQQ.out, Bool.true_or], HWL⟩
                case measure => simp only [intOf]; omega
            · obtain rfl : m = (natInts (chainP ss s')).length := by omega
              have hin : decide (i ∈ (chainP ss s').take (natInts (chainP ss s')).length) = decide (i ∈ chainP ss s') := by rw [HNK.out, List.take_length]
              rw [hin]
              have XN := Lib.hid (belowS XL.out HWL.out)
              have p0 := cell_regrown ((RPL.out.below HWL.out RPL.out.lt).cell (i := 0) (v := .int .i64 (i : Int)) (by rfl))
              have p1 := cell_regrown ((RPL.out.below HWL.out RPL.out.lt).cell (i := 1) (v := .int .i64 (j : Int)) (by rfl))
              have HEND : ∀ dq osq, Below wr.heap.size wr (Sort.grow (redrawn wr dq) osq) := fun dq osq => below_regrown wr dq osq
              generalize hFF : foundB ss s' (i, j, y) = F at *
              generalize hCC : decide (i ∈ chainP ss s') = Cq at *
              have D1 : ∀ d os, Calls Tryd.prog 30 #[.slice o1 ys.length c1, .agg #[.int .i64 (i : Int), .int .i64 (j : Int)]] (Sort.grow (redrawn wr d) os) fun e w'' => e = .returned (.bool F) ∧ ∃ q : Regrown, w'' = Sort.grow (redrawn wr q.d) q.os :=
                fun d os => Calls.regrown_of (HSB.out ▸ sgIn_any ys o1 c1 (i : Int) (j : Int) _ (by omega) (A1g.out.below (belowS XN.out (HEND d os))))
              have D2 : ∀ d os, Calls Tryd.prog 30 #[.slice oL ls.length cL, .agg #[.int .i64 (i : Int), .int .i64 (j : Int)]] (Sort.grow (redrawn wr d) os) fun e w'' => e = .returned (.bool F) ∧ ∃ q : Regrown, w'' = Sort.grow (redrawn wr q.d) q.os :=
                fun d os => Calls.regrown_of (HFB.out ▸ sgIn_any ls oL cL (i : Int) (j : Int) _ (by omega) (PL.out.below (belowS HWL.out (HEND d os))))
              have D3 : ∀ d os, Calls Tryd.prog 30 #[.slice o2 zs.length c2, .agg #[.int .i64 (i : Int), .int .i64 (j : Int)]] (Sort.grow (redrawn wr d) os) fun e w'' => e = .returned (.bool (Cq && !F)) ∧ ∃ q : Regrown, w'' = Sort.grow (redrawn wr q.d) q.os :=
                fun d os => Calls.regrown_of (HHB.out ▸ sgIn_any zs o2 c2 (i : Int) (j : Int) _ (by omega) (A2g.out.below (belowS XN.out (HEND d os))))
              have HENDH := Lib.hid HEND
              have hfd : (F != F) = false := by simp
              clear HEND hFF hCC hin
              cases Cq <;> cases F <;> (simp only [Bool.not_true, Bool.not_false, Bool.and_true, Bool.and_false, Bool.and_self] at D3)
              all_goals
                go_wp2
                refine wp_region_quiet_below (by kernel_rfl) (by kernel_rfl) ?_
                repeat (first | go_big_quiet_step (with_reducible first | exact D1 _ _ | exact D2 _ _ | exact D3 _ _) | quiet_step (with_reducible first | exact D1 _ _ | exact D2 _ _ | exact D3 _ _))
                refine wpQuiet_nil ?_
                intro _ hw'
                obtain ⟨⟨dq, osq⟩, hw''⟩ := hw'
                subst hw''
                have HWE := Lib.hid (belowS XN.out (HENDH.out dq osq))
                clear D1 D2 D3 p0 p1 HENDH
                go_wp2
                go_roundw
                case rel => exact ⟨k + 1, by go_num, by omega, HWE⟩
                case measure => simp only [intOf]; omega
        · obtain rfl : k = (plsP ss 1).length := by omega
          have hsum : ((ys.length : Nat) : Int) + ((zs.length : Nat) : Int) ≤ (((plsP ss 1).length : Nat) : Int) := by
            have := seen_hidden ss s'
            rw [← HYZ.out.1, ← HYZ.out.2] at this
            omega
          go_wp2
          go_ret
          exact ⟨rfl, belowS HA.out (belowS X9.out HW9.out)⟩
    · obtain rfl : b' = false := by
        rcases V1.out with ⟨_, _, h3⟩ | ⟨h1, _⟩
        · exact h3
        · exact absurd h1 hS
      obtain rfl : f' = false := by
        rcases V2.out with ⟨_, _, h3⟩ | ⟨h1, _⟩
        · exact h3
        · exact absurd h1 hS
      clear hS V1 V2
      go_wp2_with fail
      refine (sgPlaces_self ys o1 o3 c1 c3 _ (by omega) A1e.out A3e.out).mono ?_
      rintro e w8 ⟨rfl, hb8⟩
      have A2f := Lib.hid (A2e.out.below hb8)
      have A4f := Lib.hid (A4e.out.below hb8)
      have X8 := Lib.hid (belowS X7.out hb8)
      clear hb8
      go_wp2_with fail
      refine (sgPlaces_self zs o2 o4 c2 c4 _ (by omega) A2f.out A4f.out).mono ?_
      rintro e w9 ⟨rfl, hb9⟩
      have XE := Lib.hid (belowS HA.out (belowS X8.out hb9))
      clear hb9
      go_wp2
      go_ret
      exact ⟨rfl, XE.out⟩
end Go.Proofs.YtjogfagjcpcihaaDoor
