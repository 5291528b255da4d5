/-
  The text of the table of what all items mean, and how a loop comes to it. Plain facts. The walk of the given TableOf. Condition: the argument's memory holds the graph. The walk of impl's TableOf. Conditions: the argument's memory holds the graph; the package-level errors hold errors; the table of powers of ten is laid.
-/
import Derived.Test.YtjogfagjcpcihaaGreatDoorJDY
import Derived.Test.YtjogfagjcpcihaaGreatDoorJAY
import Derived.Test.YtjogfagjcpcihaaGreatDoorWSpecItemsY
import Derived.Test.YtjogfagjcpcihaaGreatDoorJCY
import Derived.Test.YtjogfagjcpcihaaGreatDoorWImplItemsY
import Derived.Test.YtjogfagjcpcihaaGreatDoorWImplPlacesY
namespace Go.Proofs.YtjogfagjcpcihaaGreatDoor
open Go Go.RowKit Go.Lib Sg
theorem join_end (c : UInt8) (xs : List (List UInt8)) (x : List UInt8) (h : xs ≠ []) : join (xs ++ [x]) [c] = join xs [c] ++ c :: x := by
  induction xs with
  | nil => exact absurd rfl h
  | cons y r ih =>
    cases r with
    | nil => simp [join, List.intercalate]
    | cons z t =>
      have := ih (by simp)
      simp only [join, List.intercalate, List.cons_append] at this ⊢
      simp only [List.intersperse_cons_cons, List.flatten_cons, List.append_assoc] at this ⊢
      rw [this]
/-- The row of an item. -/
def rowT (ss : List Sc) (q : Nat × Nat × It) : List UInt8 := pText ((q.1 : Int), (q.2.1 : Int)) ++ 62 :: placesText (meanIt ss q)
def rowsT (ss : List Sc) (l : List (Nat × Nat × It)) : List (List UInt8) := (l.filter fun q => !(q.2.2.kind == 1)).map (rowT ss)
def tabT (ss : List Sc) (l : List (Nat × Nat × It)) : List UInt8 := join (rowsT ss l) [59]
def tableT (ss : List Sc) : List UInt8 := if rowsT ss (placed 0 ss) = [] then [45] else tabT ss (placed 0 ss)
theorem rowsT_snoc (ss : List Sc) (l : List (Nat × Nat × It)) (q : Nat × Nat × It) : rowsT ss (l ++ [q]) = rowsT ss l ++ if q.2.2.kind = 1 then [] else [rowT ss q] := by
  unfold rowsT
  rw [List.filter_append, List.map_append]
  congr 1
  by_cases h : q.2.2.kind = 1
  · simp [h]
  · simp [h]
theorem rowT_ne (ss : List Sc) (q : Nat × Nat × It) : rowT ss q ≠ [] := by unfold rowT; simp
theorem rowsT_length (ss : List Sc) (l : List (Nat × Nat × It)) : (rowsT ss l).length ≤ l.length := by unfold rowsT; rw [List.length_map]; exact List.length_filter_le _ _
theorem tabT_snoc {ss : List Sc} {l : List (Nat × Nat × It)} {q : Nat × Nat × It} (hk : q.2.2.kind ≠ 1) : tabT ss (l ++ [q]) = if rowsT ss l = [] then rowT ss q else tabT ss l ++ 59 :: rowT ss q := by
  unfold tabT
  rw [rowsT_snoc, if_neg hk]
  split
  · rename_i h
    rw [h]; simp [join_one]
  · rename_i h
    exact join_end 59 _ _ h
theorem tabT_same {ss : List Sc} {l : List (Nat × Nat × It)} {q : Nat × Nat × It} (hk : q.2.2.kind = 1) : tabT ss (l ++ [q]) = tabT ss l := by
  unfold tabT
  rw [rowsT_snoc, if_pos hk, List.append_nil]
theorem join_nil_iff {c : UInt8} : ∀ {xs : List (List UInt8)}, (∀ x ∈ xs, x ≠ []) → (join xs [c] = [] ↔ xs = [])
  | [], _ => by simp [join_nil]
  | [x], h => by simp [join_one, h x (by simp)]
  | x :: y :: r, h => by
    have := h x (by simp)
    simp [join, List.intercalate, List.intersperse_cons_cons, this]
theorem rowsT_ne (ss : List Sc) (l : List (Nat × Nat × It)) : ∀ x ∈ rowsT ss l, x ≠ [] := by
  intro x hx
  obtain ⟨q, _, rfl⟩ := List.mem_map.1 hx
  exact rowT_ne ss q
theorem tabT_nil (ss : List Sc) (l : List (Nat × Nat × It)) : tabT ss l = [] ↔ rowsT ss l = [] := join_nil_iff (rowsT_ne ss l)
theorem isPlace_i64 {ss : List Sc} (hv : Valid ss) {p : Int × Int} (h : IsPlace ss p) : I64 p.1 ∧ I64 p.2 := by
  obtain ⟨i, j, c, x, rfl, hc, hx⟩ := h
  have h1 := (List.getElem?_eq_some_iff.1 hc).1
  have h2 := (List.getElem?_eq_some_iff.1 hx).1
  have h3 := hv.count.2
  have h4 := hv.five c (List.mem_of_getElem? hc)
  unfold I64
  constructor <;> (dsimp only; omega)
theorem placed_i64 {ss : List Sc} (hv : Valid ss) {q : Nat × Nat × It} (hq : q ∈ placed 0 ss) : I64 (q.1 : Int) ∧ I64 (q.2.1 : Int) := by
  obtain ⟨c, hc, hx⟩ := placed_at hq
  exact isPlace_i64 hv (p := ((q.1 : Int), (q.2.1 : Int))) ⟨q.1, q.2.1, c, q.2.2, rfl, hc, hx⟩
theorem placesText_one (p : Int × Int) : placesText [p] = pText p := by unfold placesText; simp [join_one]
theorem placesText_len {ps : List (Int × Int)} (h : ∀ p ∈ ps, I64 p.1 ∧ I64 p.2) : (placesText ps).length ≤ 44 * ps.length + 1 := by
  unfold placesText
  split
  · simp
  · rw [← outTo_all]
    have := outTo_len h ps.length (Nat.le_refl _)
    omega
theorem mean_text {ss : List Sc} (hv : Valid ss) {q : Nat × Nat × It} (hq : q ∈ placed 0 ss) : (placesText (meanIt ss q)).length ≤ 1101 ∧ (∀ p ∈ meanIt ss q, I64 p.1 ∧ I64 p.2) ∧ (meanIt ss q).length ≤ 25 := by
  have h1 := meanIt_length hv q
  have h2 : ∀ p ∈ meanIt ss q, I64 p.1 ∧ I64 p.2 := fun p hp => isPlace_i64 hv (meanIt_isPlace hq p hp)
  have h3 := placesText_len h2
  exact ⟨by omega, h2, h1⟩
theorem rowT_len {ss : List Sc} (hv : Valid ss) {q : Nat × Nat × It} (hq : q ∈ placed 0 ss) : (rowT ss q).length ≤ 1200 := by
  obtain ⟨a, b⟩ := placed_i64 hv hq
  have h1 := pText_len (p := ((q.1 : Int), (q.2.1 : Int))) a b
  have h2 := (mean_text hv hq).1
  unfold rowT
  simp
  omega
theorem join_short (c : UInt8) : ∀ (xs : List (List UInt8)), (∀ x ∈ xs, x.length ≤ 1200) → (join xs [c]).length ≤ 1201 * xs.length
  | [], _ => by simp [join_nil]
  | [x], h => by have := h x (by simp); simp [join_one]; omega
  | x :: y :: r, h => by
    have h1 := h x (by simp)
    have h2 := join_short c (y :: r) (fun z hz => h z (by simp [hz]))
    simp only [join, List.intercalate, List.intersperse_cons_cons, List.flatten_cons, List.length_append, List.length_cons, List.length_nil] at h2 ⊢
    omega
theorem tabT_len {ss : List Sc} (hv : Valid ss) {l : List (Nat × Nat × It)} (hl : ∀ q ∈ l, q ∈ placed 0 ss) (hn : l.length ≤ 30) : (tabT ss l).length ≤ 36030 := by
  have h1 := join_short 59 (rowsT ss l) (by
    intro x hx
    obtain ⟨q, hq, rfl⟩ := List.mem_map.1 hx
    exact rowT_len hv (hl q (List.mem_filter.1 hq).1))
  have h2 := rowsT_length ss l
  unfold tabT
  have : 1201 * (rowsT ss l).length ≤ 1201 * 30 := Nat.mul_le_mul_left _ (by omega)
  omega
end Go.Proofs.YtjogfagjcpcihaaGreatDoor
namespace Go.Proofs.YtjogfagjcpcihaaGreatDoor
open Go Go.RowKit Go.Maps Sg
attribute [local go_sem ↓] field_kind field_name field_scope
set_option maxRecDepth 100000 in
theorem specPlaces_nil (oa : Option Addr) (cap : Nat) (w : World) :
    Calls Tryz.prog 14 #[.slice oa 0 cap] w fun e w' => ∃ T : ByteArray, e = .returned (.string T) ∧ T.data.toList = placesText [] ∧ Below w.heap.size w w' := by
  go_enter Tryz.func14, Tryz.ntmps14
  go_wp2
  go_loopw [3, 8] (fun s i wr => i = .int .i64 0 ∧ s = .string ⟨#[]⟩ ∧ wr = w) (fun _ _ _ => 0)
  case atStart => exact ⟨rfl, rfl, rfl⟩
  case round =>
    obtain ⟨rfl, rfl, rfl⟩ := hrel
    go_wp2
    go_ret
    exact ⟨_, rfl, rfl, Below.refl _ _⟩
theorem specPlaces_arg (ps : List (Int × Int)) (oa : Option Addr) (cap : Nat) (w : World) (hn : ps.length ≤ 1048576) (hp : ∀ p ∈ ps, I64 p.1 ∧ I64 p.2) (h : ArgPlaces w oa ps) :
    Calls Tryz.prog 14 #[.slice oa ps.length cap] w fun e w' => ∃ T : ByteArray, e = .returned (.string T) ∧ T.data.toList = placesText ps ∧ Below w.heap.size w w' := by
  rcases h with rfl | ⟨b, off, rfl, h2, h3⟩
  · exact specPlaces_nil oa cap w
  · exact specPlaces_any ps b off cap w hn hp h2 h3
theorem one_place (w : World) (x y : Int) : ArgPlaces (w.alloc (.cells #[.int .i64 x, .int .i64 y] 26)) (some ⟨w.heap.size, 0, none⟩) [(x, y)] := by
  refine .inr ⟨w.heap.size, 0, rfl, by simp, fun i p hp => ?_⟩
  cases i with
  | zero =>
    simp only [List.getElem?_cons_zero, Option.some.injEq] at hp
    subst hp
    exact ⟨(Row.new w [.int .i64 x, .int .i64 y] 26).cell (i := 0) (by rfl), (Row.new w [.int .i64 x, .int .i64 y] 26).cell (i := 1) (by rfl)⟩
  | succ n => simp at hp
/-- What stands behind a round in which a row was written. -/
theorem tab_row {ss : List Sc} {l : List (Nat × Nat × It)} {q : Nat × Nat × It} {O O' T1 T2 : ByteArray} (hk : q.2.2.kind ≠ 1) (hO : O.data.toList = tabT ss l) (hO' : O' = if rowsT ss l = [] then O else O ++ ⟨#[59]⟩)
    (h1 : T1.data.toList = placesText [((q.1 : Int), (q.2.1 : Int))]) (h2 : T2.data.toList = placesText (meanIt ss q)) : (O' ++ T1 ++ (⟨#[62]⟩ : ByteArray) ++ T2).data.toList = tabT ss (l ++ [q]) := by
  rw [tabT_snoc hk, hO']
  rw [placesText_one] at h1
  by_cases he : rowsT ss l = []
  · rw [if_pos he, if_pos he]
    have h0 : O.data.toList = [] := by rw [hO]; exact (tabT_nil ss l).2 he
    simp [ByteArray.data_append, h0, h1, h2, rowT]
  · rw [if_neg he, if_neg he]
    simp [ByteArray.data_append, hO, h1, h2, rowT]
def TabGot (ss : List Sc) (w : World) (e : Ending) (w' : World) : Prop := ∃ T : ByteArray, e = .returned (.string T) ∧ ((Valid ss ∧ T.data.toList = tableT ss) ∨ (¬ Valid ss ∧ T.data.toList = [])) ∧ Below w.heap.size w w'
set_option maxRecDepth 100000 in
set_option maxHeartbeats 4000000 in
theorem specTableOf_any (ss : List Sc) (hf : FitsScopes ss) (oa : Option Addr) (cap : Nat) (w : World) (hc : HoldsScopes w oa ss) :
    Calls Tryz.prog 23 #[.agg #[.slice oa ss.length cap]] w (TabGot ss w) := by
  have hb0 := (Below.refl w.heap.size w).alloc (Nat.le_refl _) (.cells #[.slice oa ss.length cap] 33)
  have RG := Lib.hid (Row.new w [.slice oa ss.length cap] 33)
  have C := Lib.hid (specValid_any ss oa cap _ hf (hc.below hb0 (Nat.le_refl _)))
  have HB0 := Lib.hid hb0
  have HC := Lib.hid hc
  have HF := Lib.hid hf
  clear hf hc hb0
  go_enter Tryz.func23, Tryz.ntmps23
  go_wp2_with fail
  refine C.out.mono ?_
  rintro e w1 ⟨q, rfl, hv, hb⟩
  have HB1 := Lib.hid (HB0.out.trans (hb.mono HB0.out.size))
  have RG1 := Lib.hid (RG.out.below hb RG.out.lt)
  have g1 := RG1.out.cell (i := 0) (v := .slice oa ss.length cap) (by rfl)
  have HV := Lib.hid hv
  clear hb hv
  cases q
  · have HN : Hid (¬ Valid ss) := Lib.hid (fun h => by have := HV.out.2 h; cases this)
    go_wp2
    go_ret
    exact ⟨_, rfl, .inr ⟨HN.out, rfl⟩, HB1.out⟩
  · have HVV := Lib.hid (HV.out.1 rfl)
    have h30 := placed_bound 0 ss 6 5 HVV.out.count.2 HVV.out.five
    have C3 := Lib.hid (l4Items_any ss (by have := HVV.out.count.2; omega) (fun s hs => by have := HVV.out.five s hs; omega) (by omega) oa cap _ (HC.out.below HB1.out (Nat.le_refl _)))
    go_wp2_with fail
    refine C3.out.mono ?_
    rintro e w3 ⟨tl, rfl, htl, hb3⟩
    obtain ⟨ot, ct, rfl, hat⟩ := argPlaces_of_owns htl
    have HB3 := Lib.hid (HB1.out.trans (hb3.mono HB1.out.size))
    have RG3 := Lib.hid (RG1.out.below hb3 RG1.out.lt)
    have HAT := Lib.hid hat
    have HLN : Hid ((plsAll (placed 0 ss)).length = (placed 0 ss).length) := Lib.hid (plsAll_length _)
    have hln : (plsAll (placed 0 ss)).length ≤ 30 := by rw [plsAll_length]; exact h30
    clear hb3 htl hat g1 h30
    go_wp2
    go_loopw [3, 12] (fun s i wr => ∃ (k : Nat) (O : ByteArray), i = .int .i64 k ∧ s = .string O ∧ k ≤ (plsAll (placed 0 ss)).length ∧ Hid (O.data.toList = tabT ss ((placed 0 ss).take k)) ∧ Hid (Below w3.heap.size w3 wr)) (fun _ i _ => (plsAll (placed 0 ss)).length - (intOf i).toNat)
    case atStart => exact ⟨0, ⟨#[]⟩, rfl, rfl, Nat.zero_le _, Lib.hid (by rw [List.take_zero]; rfl), Lib.hid (Below.refl _ _)⟩
    case round =>
      obtain ⟨k, O, rfl, rfl, hk, HO, hP⟩ := hrel
      have hOs : O.size ≤ 36030 := by
        have h1 := tabT_len HVV.out (l := (placed 0 ss).take k) (fun q hq => List.mem_of_mem_take hq) (by rw [List.length_take, ← HLN.out]; omega)
        rw [← HO.out] at h1
        exact h1
      by_cases hlt : k < (plsAll (placed 0 ss)).length
      · obtain ⟨⟨i, j, x⟩, hqk⟩ : ∃ q, (placed 0 ss)[k]? = some q := ⟨_, List.getElem?_eq_getElem (by rw [HLN.out] at hlt; exact hlt)⟩
        have hqm := List.mem_of_getElem? hqk
        obtain ⟨b5, f5, rfl, hb5, q5⟩ := (HAT.out.below hP.out).at (by omega)
        obtain ⟨r0, r1⟩ := q5 k ((i : Int), (j : Int)) (plsAll_at hqk)
        have hba := (Below.refl wr.heap.size wr).alloc (Nat.le_refl _) (.cells #[.int .i64 (i : Int), .int .i64 (j : Int)] 26)
        have HBA := Lib.hid (hP.out.trans (hba.mono hP.out.size))
        have HBW := Lib.hid (HB3.out.trans (HBA.out.mono HB3.out.size))
        have g4 := (RG3.out.below HBA.out RG3.out.lt).cell (i := 0) (v := .slice oa ss.length cap) (by rfl)
        have RPB := Lib.hid (Row.new wr [.int .i64 (i : Int), .int .i64 (j : Int)] 26)
        obtain ⟨c, hsc, hx⟩ := placed_at hqm
        dsimp only at hsc hx
        have C4 := Lib.hid (specAt_any ss HF.out oa cap i j c x hsc hx _ (HC.out.below HBW.out (Nat.le_refl _)))
        have HTK : Hid ((placed 0 ss).take (k + 1) = (placed 0 ss).take k ++ [(i, j, x)]) := Lib.hid (by rw [List.take_add_one, hqk]; rfl)
        have HQM := Lib.hid hqm
        have HPI := Lib.hid (placed_i64 HVV.out hqm)
        have HMT := Lib.hid (mean_text HVV.out hqm)
        unfold itV at C4
        clear hba q5 hqk hqm hsc hx
        go_wp2_with fail
        refine C4.out.mono ?_
        rintro e w5 ⟨rfl, hb6⟩
        have HB3W := Lib.hid (HBA.out.trans (hb6.mono HBA.out.size))
        have HBW5 := Lib.hid (HB3.out.trans (HB3W.out.mono HB3.out.size))
        have RP5 := Lib.hid (RPB.out.below hb6 RPB.out.lt)
        have RG5 := Lib.hid (RG3.out.below HB3W.out RG3.out.lt)
        have HS : Hid (∀ W : World, Below w5.heap.size w5 W → W.cell? ⟨wr.heap.size, 0, none⟩ = some (.int .i64 (i : Int)) ∧ W.cell? ⟨wr.heap.size, 1, none⟩ = some (.int .i64 (j : Int)) ∧ W.cell? ⟨w.heap.size, 0, none⟩ = some (.slice oa ss.length cap)) := Lib.hid (fun W hb =>
          ⟨(RP5.out.below hb RP5.out.lt).cell (i := 0) (by rfl), (RP5.out.below hb RP5.out.lt).cell (i := 1) (by rfl), (RG5.out.below hb RG5.out.lt).cell (i := 0) (by rfl)⟩)
        clear hb6 g4 r0 r1
        by_cases hk1 : x.kind = 1
        · have hq : (x.kind == 1) = true := by simpa using hk1
          have HNX : Hid (O.data.toList = tabT ss ((placed 0 ss).take (k + 1))) := Lib.hid (by rw [HTK.out, tabT_same (q := (i, j, x)) hk1]; exact HO.out)
          clear hk1
          go_wp2
          go_roundw
          case rel => exact ⟨k + 1, _, by go_num, rfl, by omega, HNX, HB3W⟩
          case measure => simp only [intOf]; omega
        · have hq : (x.kind == 1) = false := by simpa using hk1
          by_cases hre : rowsT ss ((placed 0 ss).take k) = []
          · have HRE := Lib.hid hre
            have hOe : O.toList.isEmpty = true := by rw [ByteArray.toList_eq, HO.out, (tabT_nil ss _).2 hre]; rfl
            clear hre
            go_upto_region 10 with (fail)
            clear hq hOe
            refine wp_region_kept (S := fun w' => w'.cell? ⟨wr.heap.size, 0, none⟩ = some (.int .i64 (i : Int)) ∧ w'.cell? ⟨wr.heap.size, 1, none⟩ = some (.int .i64 (j : Int)) ∧ w'.cell? ⟨w.heap.size, 0, none⟩ = some (.slice oa ss.length cap)) 12 (by kernel_rfl) ?_
            have HB5 := Lib.hid ((Below.refl w5.heap.size w5).drew)
            have hS0 : w5.drew.cell? ⟨wr.heap.size, 0, none⟩ = some (.int .i64 (i : Int)) ∧ w5.drew.cell? ⟨wr.heap.size, 1, none⟩ = some (.int .i64 (j : Int)) ∧ w5.drew.cell? ⟨w.heap.size, 0, none⟩ = some (.slice oa ss.length cap) := HS.out _ HB5.out
            refine KeptAny.take (i := 0) (v := ?_) (by kernel_rfl) rfl rfl (by kernel_rfl) (by kernel_rfl) (by kernel_rfl) (fun _ _ _ h => h) (by rfl) (fun w' hw' => ?_) (fun _ => rfl) hS0 ?_
            rotate_left
            · (obtain ⟨s0, s1, s2⟩ := hw'; go_simp; try with_reducible rfl)
            refine KeptAny.take (i := 1) (v := ?_) (by kernel_rfl) rfl rfl (by kernel_rfl) (by kernel_rfl) (by kernel_rfl) (fun _ _ _ h => h) (by rfl) (fun w' hw' => ?_) (fun _ => rfl) hS0 ?_
            rotate_left
            · (obtain ⟨s0, s1, s2⟩ := hw'; go_simp; try with_reducible rfl)
            refine KeptAny.take (i := 6) (v := ?_) (by kernel_rfl) rfl rfl (by kernel_rfl) (by kernel_rfl) (by kernel_rfl) (fun _ _ _ h => h) (by rfl) (fun w' hw' => ?_) (fun _ => rfl) hS0 ?_
            rotate_left
            · (obtain ⟨s0, s1, s2⟩ := hw'; go_simp; try with_reducible rfl)
            refine KeptAny.take (i := 7) (v := ?_) (by kernel_rfl) rfl rfl (by kernel_rfl) (by kernel_rfl) (by kernel_rfl) (fun _ _ _ h => h) (by rfl) (fun w' hw' => ?_) (fun _ => rfl) hS0 ?_
            rotate_left
            · (obtain ⟨s0, s1, s2⟩ := hw'; go_simp; try with_reducible rfl)
            refine KeptAny.one (i := 2) (by kernel_rfl) rfl (by rfl) (fun K hK => ?_)
            go_simp
            clear hS0
            have HB6 := Lib.hid (HB5.out.alloc (Nat.le_refl _) (.cells #[.int .i64 (i : Int), .int .i64 (j : Int)] 26))
            refine hK.out _ _ (HS.out _ HB6.out) (fun _ => ?_)
            clear hK
            refine KeptAny.one (i := 3) (by kernel_rfl) rfl (by rfl) (fun K hK => ?_)
            go_simp
            refine ⟨trivial, ?_⟩
            have hC := (callsIn_wide (n := 5)).2 (specPlaces_arg [((i : Int), (j : Int))] _ 1 _ (by simp) (by intro p hp; rw [List.mem_singleton] at hp; rw [hp]; exact HPI.out) (one_place w5.drew (i : Int) (j : Int)))
            refine hC.mono ?_
            clear hC
            rintro e w7 ⟨T1, rfl, hT1, hb7⟩
            have HB7 := Lib.hid (HB6.out.trans (hb7.mono HB6.out.size))
            have HT1 := Lib.hid hT1
            have hs1 : T1.size ≤ 43 := by
              have h1 := congrArg List.length hT1
              have h2 := pText_len (p := ((i : Int), (j : Int))) HPI.out.1 HPI.out.2
              rw [placesText_one] at h1
              change T1.data.toList.length ≤ 43
              omega
            clear hb7 hT1
            have hS0 := HS.out _ HB7.out
            refine hK.out _ _ hS0 (fun _ => ?_)
            clear hK
            have z1 : ¬ 9223372036854775807 < O.size + T1.size := by omega
            have z2 : ¬ 9223372036854775807 < O.size + T1.size + 1 := by omega
            refine KeptAny.take (i := 4) (v := ?_) (by kernel_rfl) rfl rfl (by kernel_rfl) (by kernel_rfl) (by kernel_rfl) (fun _ _ _ h => h) (by rfl) (fun w' hw' => ?_) (fun _ => rfl) hS0 ?_
            rotate_left
            · (obtain ⟨s0, s1, s2⟩ := hw'; go_simp; try with_reducible rfl)
            refine KeptAny.take (i := 5) (v := ?_) (by kernel_rfl) rfl rfl (by kernel_rfl) (by kernel_rfl) (by kernel_rfl) (fun _ _ _ h => h) (by rfl) (fun w' hw' => ?_) (fun _ => rfl) hS0 ?_
            rotate_left
            · (obtain ⟨s0, s1, s2⟩ := hw'; go_simp; try with_reducible rfl)
            refine KeptAny.one (i := 8) (by kernel_rfl) rfl (by rfl) (fun K hK => ?_)
            go_simp
            clear hS0 z1 z2
            refine ⟨trivial, ?_⟩
            have hC := (callsIn_wide (n := 5)).2 (specResolve_any ss HVV.out HF.out oa cap HQM.out _ (HC.out.below (HBW5.out.trans (HB7.out.mono HBW5.out.size)) (Nat.le_refl _)))
            refine hC.mono ?_
            clear hC
            rintro e w8 ⟨ml, rfl, hml, hb8⟩
            obtain ⟨om, cm, rfl, hma⟩ := argPlaces_of_owns hml
            have HB8 := Lib.hid (HB7.out.trans (hb8.mono HB7.out.size))
            have HMA := Lib.hid hma
            clear hb8 hml hma
            refine hK.out _ _ (HS.out _ HB8.out) (fun _ => ?_)
            clear hK
            refine KeptAny.one (i := 9) (by kernel_rfl) rfl (by rfl) (fun K hK => ?_)
            go_simp
            refine ⟨trivial, ?_⟩
            have hC := (callsIn_wide (n := 5)).2 (specPlaces_arg (meanIt ss (i, j, x)) om cm _ (by have := HMT.out.2.2; omega) HMT.out.2.1 HMA.out)
            refine hC.mono ?_
            clear hC
            rintro e w9 ⟨T2, rfl, hT2, hb9⟩
            have HB9 := Lib.hid (HB8.out.trans (hb9.mono HB8.out.size))
            have HT2 := Lib.hid hT2
            have hs2 : T2.size ≤ 1101 := by
              have h1 := congrArg List.length hT2
              have h2 := HMT.out.1
              change T2.data.toList.length ≤ 1101
              omega
            clear hb9 hT2
            refine hK.out _ _ (HS.out _ HB9.out) (fun _ => ?_)
            clear hK
            have z3 : ¬ 9223372036854775807 < O.size + T1.size + 1 + T2.size := by omega
            refine KeptAny.one (i := 10) (by kernel_rfl) rfl (by rfl) (fun K hK => ?_)
            go_simp
            refine hK.out _ _ (HS.out _ HB9.out) (fun _ => ?_)
            clear hK
            refine KeptAny.one (i := 11) (by kernel_rfl) rfl (by rfl) (fun K hK => ?_)
            go_simp
            refine hK.out _ _ (HS.out _ HB9.out) (fun _ => ?_)
            clear hK z3
            refine KeptAny.done (by kernel_rfl) ?_ _
            have HNX : Hid ((O ++ T1 ++ (⟨#[62]⟩ : ByteArray) ++ T2).data.toList = tabT ss ((placed 0 ss).take (k + 1))) := Lib.hid (by rw [HTK.out]; exact tab_row (q := (i, j, x)) hk1 HO.out (by first | rw [if_pos HRE.out] | (rw [if_neg HRE.out]; exact HO2.out)) HT1.out HT2.out)
            have HBN := Lib.hid (HB3W.out.trans (HB9.out.mono HB3W.out.size))
            go_wp2
            go_roundw
            case rel => exact ⟨k + 1, _, by go_num, rfl, by omega, HNX, HBN⟩
            case measure => simp only [intOf]; omega
          · have HRE := Lib.hid hre
            have hOe : O.toList.isEmpty = false := by
              rw [ByteArray.toList_eq, HO.out]
              have := fun h => hre ((tabT_nil ss _).1 h)
              simpa using this
            have z0 : ¬ 9223372036854775807 < O.size + 1 := by omega
            clear hre
            go_upto_region 10 with (fail)
            clear hq hOe z0
            obtain ⟨O2, hO2⟩ : ∃ O2 : ByteArray, O ++ (⟨#[59]⟩ : ByteArray) = O2 := ⟨_, rfl⟩
            have hO2s : O2.size ≤ 36031 := by
              have h1 : (O ++ (⟨#[59]⟩ : ByteArray)).size = O.size + 1 := by rw [ByteArray.size_append]; rfl
              rw [hO2] at h1
              omega
            rw [hO2]
            have HO2 : Hid (O2 = O ++ (⟨#[59]⟩ : ByteArray)) := Lib.hid hO2.symm
            clear hO2
            refine wp_region_kept (S := fun w' => w'.cell? ⟨wr.heap.size, 0, none⟩ = some (.int .i64 (i : Int)) ∧ w'.cell? ⟨wr.heap.size, 1, none⟩ = some (.int .i64 (j : Int)) ∧ w'.cell? ⟨w.heap.size, 0, none⟩ = some (.slice oa ss.length cap)) 12 (by kernel_rfl) ?_
            have HB5 := Lib.hid ((Below.refl w5.heap.size w5).drew)
            have hS0 : w5.drew.cell? ⟨wr.heap.size, 0, none⟩ = some (.int .i64 (i : Int)) ∧ w5.drew.cell? ⟨wr.heap.size, 1, none⟩ = some (.int .i64 (j : Int)) ∧ w5.drew.cell? ⟨w.heap.size, 0, none⟩ = some (.slice oa ss.length cap) := HS.out _ HB5.out
            refine KeptAny.take (i := 0) (v := ?_) (by kernel_rfl) rfl rfl (by kernel_rfl) (by kernel_rfl) (by kernel_rfl) (fun _ _ _ h => h) (by rfl) (fun w' hw' => ?_) (fun _ => rfl) hS0 ?_
            rotate_left
            · (obtain ⟨s0, s1, s2⟩ := hw'; go_simp; try with_reducible rfl)
            refine KeptAny.take (i := 1) (v := ?_) (by kernel_rfl) rfl rfl (by kernel_rfl) (by kernel_rfl) (by kernel_rfl) (fun _ _ _ h => h) (by rfl) (fun w' hw' => ?_) (fun _ => rfl) hS0 ?_
            rotate_left
            · (obtain ⟨s0, s1, s2⟩ := hw'; go_simp; try with_reducible rfl)
            refine KeptAny.take (i := 6) (v := ?_) (by kernel_rfl) rfl rfl (by kernel_rfl) (by kernel_rfl) (by kernel_rfl) (fun _ _ _ h => h) (by rfl) (fun w' hw' => ?_) (fun _ => rfl) hS0 ?_
            rotate_left
            · (obtain ⟨s0, s1, s2⟩ := hw'; go_simp; try with_reducible rfl)
            refine KeptAny.take (i := 7) (v := ?_) (by kernel_rfl) rfl rfl (by kernel_rfl) (by kernel_rfl) (by kernel_rfl) (fun _ _ _ h => h) (by rfl) (fun w' hw' => ?_) (fun _ => rfl) hS0 ?_
            rotate_left
            · (obtain ⟨s0, s1, s2⟩ := hw'; go_simp; try with_reducible rfl)
            refine KeptAny.one (i := 2) (by kernel_rfl) rfl (by rfl) (fun K hK => ?_)
            go_simp
            clear hS0
            have HB6 := Lib.hid (HB5.out.alloc (Nat.le_refl _) (.cells #[.int .i64 (i : Int), .int .i64 (j : Int)] 26))
            refine hK.out _ _ (HS.out _ HB6.out) (fun _ => ?_)
            clear hK
            refine KeptAny.one (i := 3) (by kernel_rfl) rfl (by rfl) (fun K hK => ?_)
            go_simp
            refine ⟨trivial, ?_⟩
            have hC := (callsIn_wide (n := 5)).2 (specPlaces_arg [((i : Int), (j : Int))] _ 1 _ (by simp) (by intro p hp; rw [List.mem_singleton] at hp; rw [hp]; exact HPI.out) (one_place w5.drew (i : Int) (j : Int)))
            refine hC.mono ?_
            clear hC
            rintro e w7 ⟨T1, rfl, hT1, hb7⟩
            have HB7 := Lib.hid (HB6.out.trans (hb7.mono HB6.out.size))
            have HT1 := Lib.hid hT1
            have hs1 : T1.size ≤ 43 := by
              have h1 := congrArg List.length hT1
              have h2 := pText_len (p := ((i : Int), (j : Int))) HPI.out.1 HPI.out.2
              rw [placesText_one] at h1
              change T1.data.toList.length ≤ 43
              omega
            clear hb7 hT1
            have hS0 := HS.out _ HB7.out
            refine hK.out _ _ hS0 (fun _ => ?_)
            clear hK
            have z1 : ¬ 9223372036854775807 < O2.size + T1.size := by omega
            have z2 : ¬ 9223372036854775807 < O2.size + T1.size + 1 := by omega
            refine KeptAny.take (i := 4) (v := ?_) (by kernel_rfl) rfl rfl (by kernel_rfl) (by kernel_rfl) (by kernel_rfl) (fun _ _ _ h => h) (by rfl) (fun w' hw' => ?_) (fun _ => rfl) hS0 ?_
            rotate_left
            · (obtain ⟨s0, s1, s2⟩ := hw'; go_simp; try with_reducible rfl)
            refine KeptAny.take (i := 5) (v := ?_) (by kernel_rfl) rfl rfl (by kernel_rfl) (by kernel_rfl) (by kernel_rfl) (fun _ _ _ h => h) (by rfl) (fun w' hw' => ?_) (fun _ => rfl) hS0 ?_
            rotate_left
            · (obtain ⟨s0, s1, s2⟩ := hw'; go_simp; try with_reducible rfl)
            refine KeptAny.one (i := 8) (by kernel_rfl) rfl (by rfl) (fun K hK => ?_)
            go_simp
            clear hS0 z1 z2
            refine ⟨trivial, ?_⟩
            have hC := (callsIn_wide (n := 5)).2 (specResolve_any ss HVV.out HF.out oa cap HQM.out _ (HC.out.below (HBW5.out.trans (HB7.out.mono HBW5.out.size)) (Nat.le_refl _)))
            refine hC.mono ?_
            clear hC
            rintro e w8 ⟨ml, rfl, hml, hb8⟩
            obtain ⟨om, cm, rfl, hma⟩ := argPlaces_of_owns hml
            have HB8 := Lib.hid (HB7.out.trans (hb8.mono HB7.out.size))
            have HMA := Lib.hid hma
            clear hb8 hml hma
            refine hK.out _ _ (HS.out _ HB8.out) (fun _ => ?_)
            clear hK
            refine KeptAny.one (i := 9) (by kernel_rfl) rfl (by rfl) (fun K hK => ?_)
            go_simp
            refine ⟨trivial, ?_⟩
            have hC := (callsIn_wide (n := 5)).2 (specPlaces_arg (meanIt ss (i, j, x)) om cm _ (by have := HMT.out.2.2; omega) HMT.out.2.1 HMA.out)
            refine hC.mono ?_
            clear hC
            rintro e w9 ⟨T2, rfl, hT2, hb9⟩
            have HB9 := Lib.hid (HB8.out.trans (hb9.mono HB8.out.size))
            have HT2 := Lib.hid hT2
            have hs2 : T2.size ≤ 1101 := by
              have h1 := congrArg List.length hT2
              have h2 := HMT.out.1
              change T2.data.toList.length ≤ 1101
              omega
            clear hb9 hT2
            refine hK.out _ _ (HS.out _ HB9.out) (fun _ => ?_)
            clear hK
            have z3 : ¬ 9223372036854775807 < O2.size + T1.size + 1 + T2.size := by omega
            refine KeptAny.one (i := 10) (by kernel_rfl) rfl (by rfl) (fun K hK => ?_)
            go_simp
            refine hK.out _ _ (HS.out _ HB9.out) (fun _ => ?_)
            clear hK
            refine KeptAny.one (i := 11) (by kernel_rfl) rfl (by rfl) (fun K hK => ?_)
            go_simp
            refine hK.out _ _ (HS.out _ HB9.out) (fun _ => ?_)
            clear hK z3
            refine KeptAny.done (by kernel_rfl) ?_ _
            have HNX : Hid ((O2 ++ T1 ++ (⟨#[62]⟩ : ByteArray) ++ T2).data.toList = tabT ss ((placed 0 ss).take (k + 1))) := Lib.hid (by rw [HTK.out]; exact tab_row (q := (i, j, x)) hk1 HO.out (by first | rw [if_pos HRE.out] | (rw [if_neg HRE.out]; exact HO2.out)) HT1.out HT2.out)
            have HBN := Lib.hid (HB3W.out.trans (HB9.out.mono HB3W.out.size))
            go_wp2
            go_roundw
            case rel => exact ⟨k + 1, _, by go_num, rfl, by omega, HNX, HBN⟩
            case measure => simp only [intOf]; omega
      · obtain rfl : k = (plsAll (placed 0 ss)).length := by omega
        have HE : Hid ((placed 0 ss).take (plsAll (placed 0 ss)).length = placed 0 ss) := Lib.hid (by rw [HLN.out, List.take_length])
        have HBW := Lib.hid (HB3.out.trans (hP.out.mono HB3.out.size))
        by_cases hre : rowsT ss (placed 0 ss) = []
        · have hOe : O.toList.isEmpty = true := by rw [ByteArray.toList_eq, HO.out, HE.out, (tabT_nil ss _).2 hre]; rfl
          have HT : Hid (([45] : List UInt8) = tableT ss) := Lib.hid (by unfold tableT; rw [if_pos hre])
          clear hre
          go_wp2
          go_ret
          exact ⟨_, rfl, .inl ⟨HVV.out, HT.out⟩, HBW.out⟩
        · have hOe : O.toList.isEmpty = false := by
            rw [ByteArray.toList_eq, HO.out, HE.out]
            have := fun h => hre ((tabT_nil ss _).1 h)
            simpa using this
          have HT : Hid (O.data.toList = tableT ss) := Lib.hid (by unfold tableT; rw [if_neg hre, HO.out, HE.out])
          clear hre
          go_wp2
          go_ret
          exact ⟨_, rfl, .inl ⟨HVV.out, HT.out⟩, HBW.out⟩
end Go.Proofs.YtjogfagjcpcihaaGreatDoor
namespace Go.Proofs.YtjogfagjcpcihaaGreatDoor
open Go Go.RowKit Go.Maps Sg
attribute [local go_sem ↓] field_kind field_name field_scope
attribute [local go_sem] Oper.semAt_some
theorem implPlaces_arg (ps : List (Int × Int)) (oa : Option Addr) (cap : Nat) (w : World) (hg : TabGlobs w) (hn : ps.length ≤ 1048576) (hp : ∀ p ∈ ps, I64 p.1 ∧ I64 p.2) (h : ArgPlaces w oa ps) :
    Calls Tryz.prog 8 #[.slice oa ps.length cap] w fun e w' => ∃ T : ByteArray, e = .returned (.string T) ∧ T.data.toList = placesText ps ∧ Below w.heap.size w w' := by
  rcases h with rfl | ⟨b, off, rfl, h2, h3⟩
  · go_enter Tryz.func8, Tryz.ntmps8
    go_wp2
    go_ret
    exact ⟨_, rfl, rfl, Below.refl _ _⟩
  · exact implPlaces_any ps b off cap w hg hn hp h2 h3
def rowsB (ss : List Sc) (l : List (Nat × Nat × It)) : List ByteArray := (rowsT ss l).map fun t => ⟨t.toArray⟩
theorem rowsB_snoc (ss : List Sc) (l : List (Nat × Nat × It)) (q : Nat × Nat × It) : rowsB ss (l ++ [q]) = rowsB ss l ++ if q.2.2.kind = 1 then [] else [⟨(rowT ss q).toArray⟩] := by
  unfold rowsB
  rw [rowsT_snoc, List.map_append]
  congr 1
  split <;> rfl
theorem rowsB_length (ss : List Sc) (l : List (Nat × Nat × It)) : (rowsB ss l).length ≤ l.length := by unfold rowsB; rw [List.length_map]; exact rowsT_length ss l
theorem rowsB_data (ss : List Sc) (l : List (Nat × Nat × It)) : (rowsB ss l).map (·.data.toList) = rowsT ss l := by
  unfold rowsB
  rw [List.map_map]
  exact List.map_id _
theorem row_bytes {ss : List Sc} {q : Nat × Nat × It} {T2 : ByteArray} (h2 : T2.data.toList = placesText (meanIt ss q)) : pTx ((q.1 : Int), (q.2.1 : Int)) ++ (⟨#[62]⟩ : ByteArray) ++ T2 = ⟨(rowT ss q).toArray⟩ := by
  apply ByteArray.ext; apply Array.toList_inj.1
  simp [ByteArray.data_append, pTx, rowT, h2]
theorem texts_shape {w : World} {B n : Nat} {v : Value} {xs : List Value} (h : w.ownsRow B 9 1 v n xs) : ∃ oa cap, v = .slice oa n cap := by
  obtain ⟨_, h2 | ⟨g, cap, cur, hv, _⟩⟩ := h
  · exact ⟨none, 0, by rw [h2.1, h2.2]⟩
  · exact ⟨_, cap, hv⟩
theorem append_str0 {W : World} {base k : Nat} {v : Value} {xs : List Value} (hrow : W.ownsRow base 9 1 v k xs) (x : ByteArray) (hk : k < 1000000) (hbase : base ≤ W.heap.size) (ty : TypeId) :
    ∃ v' w', (Builtin.append_ #[70, 70] ty #[v, .slice (some ⟨W.heap.size, 0, none⟩) 1 1]).run Tryz.prog (W.alloc (.cells #[.string x] 9)) = .ok v' w' ∧ w'.ownsRow base 9 1 v' (k + 1) (xs ++ [.string x]) ∧ (W.alloc (.cells #[.string x] 9)).grownBy w' v.ownBlock := by
  obtain ⟨i0, hi, hz0, hz1, hz2⟩ := info_parts info9
  obtain ⟨v', w', hrun, h2, h3, _, _⟩ := run_append_own_at (P := Tryz.prog) (W.alloc (.cells #[.string x] 9)) base 70 ty 9 i0 (.string ByteArray.empty) 1 16 Tryz.underlying70 hi hz0 hz1 hz2 rfl (by decide) v k xs (hrow.alloc _) ⟨W.heap.size, 0, none⟩ 1 1 [.string x] rfl (cells_new W _ _)
    (by intro u hu; simp only [List.mem_singleton] at hu; subst hu; rfl) (by unfold maxLen; omega) (by omega) (by simp; omega)
  exact ⟨v', w', hrun, h2, h3⟩
def elTx {ss : List Sc} (pre : List (El ss)) : List ByteArray := rowsB ss (pre.map Subtype.val)
set_option maxRecDepth 100000 in
set_option maxHeartbeats 8000000 in
theorem implTable_any (ss : List Sc) (hF : Fair ss) (oa : Option Addr) (cap : Nat) (w : World) (hc : HoldsScopes w oa ss) (hE : TreeErrs w) (hg : TabGlobs w) :
    Calls Tryz.prog 22 #[.agg #[.slice oa ss.length cap]] w (TabGot ss w) := by
  have hb0 := (Below.refl w.heap.size w).alloc (Nat.le_refl _) (.cells #[.slice oa ss.length cap] 33)
  have C := Lib.hid ((callsIn_wide (n := 5)).2 (resolutionOf_any ss hF oa cap _ (hc.below hb0 (Nat.le_refl _)) (hE.below hb0 hE.size)))
  have HB0 := Lib.hid hb0
  have HG := Lib.hid hg
  clear hF hc hE hb0 hg
  refine (callsIn_wide (n := 6)).1 ?_
  refine callsIn_of_wp_marks Tryz.func22 rfl trivial ?_ rfl
  simp only [Tryz.ntmps22, List.size_toArray, List.length_cons, List.length_nil, Nat.reduceAdd, Nat.reduceSub, Array.replicate_succ, Array.replicate_zero, List.push_toArray, List.append_toArray, List.nil_append, List.cons_append]
  gi_wp2_with fail
  refine ⟨trivial, ?_⟩
  gi_at_call 61
  refine C.out.mono ?_
  rintro e w1 (⟨hv, ⟨tp, p, rfl⟩, hb⟩ | ⟨hv, R, T, M1, M2, MR, v, ds, le, rfl, hb, hR⟩)
  · have HN := Lib.hid hv
    have HB := Lib.hid (HB0.out.trans (hb.mono HB0.out.size))
    clear hv hb
    gi_wp2
    exact ⟨_, results_tmp rfl _ _ _, ⟨_, rfl, .inr ⟨HN.out, rfl⟩, HB.out.alloc HB.out.size _⟩⟩
  · have HB := Lib.hid (HB0.out.trans (hb.mono HB0.out.size))
    have HV := Lib.hid hv
    have HR := Lib.hid hR
    clear hv hb hR
    have r0 := ((HR.out.box.alloc (.cells #[.pointer (some ⟨R, 0, none⟩)] 106)).alloc (.cells #[.slice none 0 0] 70)).cell (i := 0) (by rfl)
    gi_wp2_with fail
    refine ⟨trivial, ?_⟩
    gi_at_call 62
    refine ((callsIn_wide (n := 5)).2 (all_any _ _)).mono ?_
    rintro e w2 ⟨rfl, rfl⟩
    gi_wp2
    have hBx : Below w1.heap.size w1 (((w1.alloc (.cells #[.pointer (some ⟨R, 0, none⟩)] 106)).alloc (.cells #[.slice none 0 0] 70)).alloc (.cells #[.pointer (some ⟨T, 0, none⟩)] 76)) := (((Below.refl _ _).alloc (Nat.le_refl _) _).alloc (by simp) _).alloc (by simp; omega) _
    have rr := ((Row.new w1 [.pointer (some ⟨R, 0, none⟩)] 106).alloc (.cells #[.slice none 0 0] 70)).alloc (.cells #[.pointer (some ⟨T, 0, none⟩)] 76)
    have bL := (Boxed.new (w1.alloc (.cells #[.pointer (some ⟨R, 0, none⟩)] 106)) 70 (.slice none 0 0)).alloc (.cells #[.pointer (some ⟨T, 0, none⟩)] 76)
    have bN := Boxed.new ((w1.alloc (.cells #[.pointer (some ⟨R, 0, none⟩)] 106)).alloc (.cells #[.slice none 0 0] 70)) 76 (.pointer (some ⟨T, 0, none⟩))
    rw [World.size_alloc] at bL
    rw [World.size_alloc, World.size_alloc] at bN
    have hsm := HV.out.small
    clear r0
    refine wpIn_rangeFunc_ownH rfl (by omega) (gf := 100) (lb := #[.pointer (some ⟨w1.heap.size + 1 + 1, 0, none⟩)]) rfl trivial (enters_of Tryz.func100 (by kernel_rfl) rfl)
      (all_stops 5 (by omega) (w1.heap.size + 1 + 1) _ T M1 M2 v ds ss w1 _ HR.out.tree.tree HR.out.tree.hold (HR.out.tree.ne HV.out) hsm.len hsm.items (.of_below hBx) bN.cell) CellsKept.trans (fun W l o o' _ h1 h2 h3 => cellsKept_b (w := w1) W l o o' (by simp at *; omega) h1 h2 h3) (Below.refl _ _) (fun _ => rfl)
      (fun pre W => (∃ u, Boxed W (w1.heap.size + 1) 70 u ∧ W.ownsRow (w1.heap.size + 1) 9 1 u (elTx pre).length ((elTx pre).map Value.string) ∧ True) ∧ (CellsKept w1.heap.size w1 W ∧ (Below w1.heap.size w1 W ∧ Row W w1.heap.size 106 [.pointer (some ⟨R, 0, none⟩)])))
      (fun _ _ _ => False)
      (OwnFrom.and (Own.from (holdsRow_own (w1.heap.size + 1) (w1.heap.size + 1) 70 9 1 (fun pre : List (El ss) => (elTx pre).length) (fun pre => (elTx pre).map Value.string) (fun _ _ => True)) _) (OwnFrom.and (cellsKept_own w1) (OwnFrom.and (ownFrom_below (Nat.le_refl _) (by simp; omega)) (row_own _ _ _ fun _ => _))))
      (fun _ _ _ _ _ hs _ _ => hs)
      ⟨⟨_, bL, World.ownsRow_nil _ _ _ _, trivial⟩, .of_below hBx, hBx, rr⟩
      (fun x a' W => ∃ Bp Bx, Row W Bp 26 [.int .i64 (x.1.1 : Int), .int .i64 (x.1.2.1 : Int)] ∧ Row W Bx 37 [.int .i64 x.1.2.2.kind, .string x.1.2.2.name, .int .i64 x.1.2.2.scope] ∧
        a' = { tmps := #[.agg #[.slice oa ss.length cap], .pointer (some ⟨w.heap.size, 0, none⟩), .string ⟨#[]⟩, .pointer (some ⟨w1.heap.size, 0, none⟩), .nilIface, .pointer (some ⟨w1.heap.size + 1, 0, none⟩), .pointer (some ⟨Bp, 0, none⟩), .pointer (some ⟨Bx, 0, none⟩), .tuple #[.pointer (some ⟨R, 0, none⟩), .nilIface], .agg #[.slice oa ss.length cap], .tuple #[.pointer (some ⟨R, 0, none⟩), .nilIface], .pointer (some ⟨R, 0, none⟩), .nilIface, .nilIface, .bool false, .pointer (some ⟨R, 0, none⟩), .pointer (some ⟨R, 0, none⟩), .pointer (some ⟨R, 0, none⟩), .pointer (some ⟨T, 0, none⟩), .func (.func 100) #[] #[.pointer (some ⟨w1.heap.size + 1 + 1, 0, none⟩)], .agg #[.int .i64 (x.1.1 : Int), .int .i64 (x.1.2.1 : Int)], .agg #[.int .i64 x.1.2.2.kind, .string x.1.2.2.name, .int .i64 x.1.2.2.scope], undef, undef, undef, undef, undef, undef, undef, undef, undef, undef, undef, undef, undef, undef, undef, undef, undef, undef, undef, undef, undef, undef], defers := [] })
      (fun x a' _ X Y row hs hg hr => by obtain ⟨Bp, Bx, h1, h2, h3⟩ := hs; exact ⟨Bp, Bx, h1.kept_cells hg (fun r e => (hr r e).2), h2.kept_cells hg (fun r e => (hr r e).2), h3⟩)
      ?assign ?body ?done ?stop
    case assign =>
      rintro l pre x W K hi hK
      dsimp only [elArgs]
      gi_wp2
      have ha : Below W.heap.size W ((W.alloc (.cells #[.int .i64 (x.1.1 : Int), .int .i64 (x.1.2.1 : Int)] 26)).alloc (.cells #[.int .i64 x.1.2.2.kind, .string x.1.2.2.name, .int .i64 x.1.2.2.scope] 37)) := ((Below.refl _ _).alloc (Nat.le_refl _) _).alloc (by simp) _
      obtain ⟨⟨u, hB, hrow, -⟩, hck, hbw, hrr⟩ := hi
      refine hK _ _ (((KeepsOthers.alloc _ _).trans (KeepsOthers.alloc _ _)).from _) ((CellsKept.of_below ha).mono hbw.size) ⟨⟨u, (hB.alloc _).alloc _, (hrow.alloc _).alloc _, trivial⟩, hck.trans ((CellsKept.of_below ha).mono hbw.size), hbw.trans (ha.mono hbw.size), (hrr.alloc _).alloc _⟩ ⟨W.heap.size, W.heap.size + 1, ?_, ?_, rfl⟩
      · exact (Row.new W [.int .i64 (x.1.1 : Int), .int .i64 (x.1.2.1 : Int)] 26).alloc _
      · have := Row.new (W.alloc (.cells #[.int .i64 (x.1.1 : Int), .int .i64 (x.1.2.1 : Int)] 26)) [.int .i64 x.1.2.2.kind, .string x.1.2.2.name, .int .i64 x.1.2.2.scope] 37
        rw [World.size_alloc] at this
        exact this
    case body =>
      rintro l pre x a' W hl _ ⟨⟨u, hB, hrow, -⟩, hck, hbw, hrr⟩ ⟨Bp, Bx, hp, hx, rfl⟩ hlen
      obtain ⟨⟨i, j, it⟩, hmem⟩ := x
      have HQ : Hid (elTx (pre ++ [(⟨(i, j, it), hmem⟩ : El ss)]) = elTx pre ++ if it.kind = 1 then [] else [⟨(rowT ss (i, j, it)).toArray⟩]) := Lib.hid (by unfold elTx; rw [List.map_append]; exact rowsB_snoc ss _ _)
      dsimp only at hp hx hlen ⊢
      have HLN : Hid ((elTx pre).length < 1000000) := Lib.hid (by
        have h1 := rowsB_length ss (pre.map Subtype.val)
        have h2 := placed_bound 0 ss 6 5 HV.out.count.2 HV.out.five
        rw [List.length_map] at h1
        unfold elTx
        omega)
      have x0 := hx.cell (i := 0) (by rfl)
      have HI := Lib.hid (And.intro hB (And.intro hrow (And.intro hck (And.intro hbw hrr))))
      have HPX := Lib.hid hp
      by_cases hk1 : it.kind = 1
      · have hq : (it.kind != 1) = false := by simpa using hk1
        have HE : Hid (elTx (pre ++ [(⟨(i, j, it), hmem⟩ : El ss)]) = elTx pre) := Lib.hid (by rw [HQ.out, if_pos hk1, List.append_nil])
        clear hk1 hB hrow hck hbw hrr hp hx
        gi_wp2
        refine ⟨(KeepsOthers.refl _).from _, .of_below (Below.refl _ _), ⟨u, HI.out.1, ?_, trivial⟩, HI.out.2.2.1, HI.out.2.2.2.1, HI.out.2.2.2.2⟩
        rw [HE.out]
        exact HI.out.2.1
      · have hq : (it.kind != 1) = true := by simpa using hk1
        have HE : Hid (elTx (pre ++ [(⟨(i, j, it), hmem⟩ : El ss)]) = elTx pre ++ [⟨(rowT ss (i, j, it)).toArray⟩]) := Lib.hid (by rw [HQ.out, if_neg hk1])
        have HPI := Lib.hid (placed_i64 HV.out hmem)
        have HMT := Lib.hid (mean_text HV.out hmem)
        have HRW := Lib.hid (HR.out.below hbw)
        have HBWW := Lib.hid (HB.out.trans (hbw.mono HB.out.size))
        obtain ⟨um, hlk, hown⟩ := mean_fix HV.out HRW.out.mean HRW.out.full hmem
        obtain ⟨om, cm, rfl, hma⟩ := argPlaces_of_owns hown
        have HMA := Lib.hid hma
        have HLK := Lib.hid hlk
        have HS : Hid (∀ X : World, Below W.heap.size W X → X.cell? ⟨w1.heap.size + 1, 0, none⟩ = some u ∧ X.cell? ⟨Bp, 0, none⟩ = some (.int .i64 (i : Int)) ∧ X.cell? ⟨Bp, 1, none⟩ = some (.int .i64 (j : Int)) ∧ X.cell? ⟨w1.heap.size, 0, none⟩ = some (.pointer (some ⟨R, 0, none⟩)) ∧ X.cell? ⟨R, 1, none⟩ = some (.map (some MR)) ∧ X.heap[MR]? = W.heap[MR]?) := Lib.hid (fun X hb => by
          refine ⟨Boxed.cell (t := 70) ((hb.block _ hB.lt).trans hB), (hp.below hb hp.lt).cell (i := 0) (by rfl), (hp.below hb hp.lt).cell (i := 1) (by rfl), (hrr.below hb hrr.lt).cell (i := 0) (by rfl), (HRW.out.below hb).box.cell (i := 1) (by rfl), hb.block MR HRW.out.mean.lt⟩)
        clear hk1 hB hrow hck hbw hrr hp hx hown hma hlk
        gi_wp2
        refine wpIn_region_kept (F := Fence.wide) (S := fun w' => w'.cell? ⟨w1.heap.size + 1, 0, none⟩ = some u ∧ w'.cell? ⟨Bp, 0, none⟩ = some (.int .i64 (i : Int)) ∧ w'.cell? ⟨Bp, 1, none⟩ = some (.int .i64 (j : Int)) ∧ w'.cell? ⟨w1.heap.size, 0, none⟩ = some (.pointer (some ⟨R, 0, none⟩)) ∧ w'.cell? ⟨R, 1, none⟩ = some (.map (some MR)) ∧ w'.heap[MR]? = W.heap[MR]?) 14 l (by kernel_rfl) (by kernel_rfl) ?_
        have HB5 := Lib.hid ((Below.refl W.heap.size W).drew)
        have hS0 := HS.out _ HB5.out
        refine KeptAny.take (i := 0) (v := ?_) (by kernel_rfl) rfl rfl (by kernel_rfl) (by kernel_rfl) (by kernel_rfl) (fun _ _ _ h => h) (by rfl) (fun w' hw' => ?_) (fun _ => rfl) hS0 ?_
        rotate_left
        · (obtain ⟨s0, s1, s2, s3, s4, s5⟩ := hw'; have s9 := HLK.out w' s5; go_simp; try with_reducible rfl)
        refine KeptAny.take (i := 1) (v := ?_) (by kernel_rfl) rfl rfl (by kernel_rfl) (by kernel_rfl) (by kernel_rfl) (fun _ _ _ h => h) (by rfl) (fun w' hw' => ?_) (fun _ => rfl) hS0 ?_
        rotate_left
        · (obtain ⟨s0, s1, s2, s3, s4, s5⟩ := hw'; have s9 := HLK.out w' s5; go_simp; try with_reducible rfl)
        refine KeptAny.take (i := 4) (v := ?_) (by kernel_rfl) rfl rfl (by kernel_rfl) (by kernel_rfl) (by kernel_rfl) (fun _ _ _ h => h) (by rfl) (fun w' hw' => ?_) (fun _ => rfl) hS0 ?_
        rotate_left
        · (obtain ⟨s0, s1, s2, s3, s4, s5⟩ := hw'; have s9 := HLK.out w' s5; go_simp; try with_reducible rfl)
        refine KeptAny.take (i := 5) (v := ?_) (by kernel_rfl) rfl rfl (by kernel_rfl) (by kernel_rfl) (by kernel_rfl) (fun _ _ _ h => h) (by rfl) (fun w' hw' => ?_) (fun _ => rfl) hS0 ?_
        rotate_left
        · (obtain ⟨s0, s1, s2, s3, s4, s5⟩ := hw'; have s9 := HLK.out w' s5; go_simp; try with_reducible rfl)
        refine KeptAny.take (i := 6) (v := ?_) (by kernel_rfl) rfl rfl (by kernel_rfl) (by kernel_rfl) (by kernel_rfl) (fun _ _ _ h => h) (by rfl) (fun w' hw' => ?_) (fun _ => rfl) hS0 ?_
        rotate_left
        · (obtain ⟨s0, s1, s2, s3, s4, s5⟩ := hw'; have s9 := HLK.out w' s5; go_simp; try with_reducible rfl)
        refine KeptAny.take (i := 7) (v := ?_) (by kernel_rfl) rfl rfl (by kernel_rfl) (by kernel_rfl) (by kernel_rfl) (fun _ _ _ h => h) (by rfl) (fun w' hw' => ?_) (fun _ => rfl) hS0 ?_
        rotate_left
        · (obtain ⟨s0, s1, s2, s3, s4, s5⟩ := hw'; have s9 := HLK.out w' s5; go_simp; try with_reducible rfl)
        refine KeptAny.take (i := 8) (v := ?_) (by kernel_rfl) rfl rfl (by kernel_rfl) (by kernel_rfl) (by kernel_rfl) (fun _ _ _ h => h) (by rfl) (fun w' hw' => ?_) (fun _ => rfl) hS0 ?_
        rotate_left
        · (obtain ⟨s0, s1, s2, s3, s4, s5⟩ := hw'; have s9 := HLK.out w' s5; go_simp; try with_reducible rfl)
        refine KeptAny.take (i := 9) (v := ?_) (by kernel_rfl) rfl rfl (by kernel_rfl) (by kernel_rfl) (by kernel_rfl) (fun _ _ _ h => h) (by rfl) (fun w' hw' => ?_) (fun _ => rfl) hS0 ?_
        rotate_left
        · (obtain ⟨s0, s1, s2, s3, s4, s5⟩ := hw'; have s9 := HLK.out w' s5; go_simp; try with_reducible rfl)
        refine KeptAny.one (i := 2) (by kernel_rfl) rfl (by rfl) (fun K hK => ?_)
        go_simp
        clear hS0
        refine ⟨trivial, ?_⟩
        refine ((callsIn_wide (n := 3)).2 (placeText_any ((i : Int), (j : Int)) HPI.out.1 HPI.out.2 _ (HG.out.below (HBWW.out.trans (HB5.out.mono HBWW.out.size)) HG.out.size))).mono ?_
        rintro e w6 ⟨rfl, hb6⟩
        have HB6 := Lib.hid (HB5.out.trans (hb6.mono HB5.out.size))
        have hs1 : (pTx ((i : Int), (j : Int))).size ≤ 43 := pText_len (p := ((i : Int), (j : Int))) HPI.out.1 HPI.out.2
        obtain ⟨T1, hT1⟩ : ∃ T1, pTx ((i : Int), (j : Int)) = T1 := ⟨_, rfl⟩
        rw [hT1] at hs1
        rw [hT1]
        have HT1 := Lib.hid hT1
        clear hb6 hT1
        have hS0 := HS.out _ HB6.out
        refine hK.out _ _ hS0 (fun _ => ?_)
        clear hK
        have z1 : ¬ 9223372036854775807 < T1.size + 1 := by omega
        refine KeptAny.take (i := 3) (v := ?_) (by kernel_rfl) rfl rfl (by kernel_rfl) (by kernel_rfl) (by kernel_rfl) (fun _ _ _ h => h) (by rfl) (fun w' hw' => ?_) (fun _ => rfl) hS0 ?_
        rotate_left
        · (obtain ⟨s0, s1, s2, s3, s4, s5⟩ := hw'; have s9 := HLK.out w' s5; go_simp; try with_reducible rfl)
        refine KeptAny.one (i := 10) (by kernel_rfl) rfl (by rfl) (fun K hK => ?_)
        go_simp
        clear hS0 z1
        refine ⟨trivial, ?_⟩
        refine ((callsIn_wide (n := 3)).2 (implPlaces_arg (meanIt ss (i, j, it)) om cm _ (HG.out.below (HBWW.out.trans (HB6.out.mono HBWW.out.size)) HG.out.size) (by have := HMT.out.2.2; omega) HMT.out.2.1 (HMA.out.below HB6.out))).mono ?_
        rintro e w7 ⟨T2, rfl, hT2, hb7⟩
        have HB7 := Lib.hid (HB6.out.trans (hb7.mono HB6.out.size))
        have HT2 := Lib.hid hT2
        have hs2 : T2.size ≤ 1101 := by
          have h1 := congrArg List.length hT2
          have h2 := HMT.out.1
          change T2.data.toList.length ≤ 1101
          omega
        clear hb7 hT2
        have hS0 := HS.out _ HB7.out
        refine hK.out _ _ hS0 (fun _ => ?_)
        clear hK
        have z2 : ¬ 9223372036854775807 < T1.size + 1 + T2.size := by omega
        refine KeptAny.take (i := 11) (v := ?_) (by kernel_rfl) rfl rfl (by kernel_rfl) (by kernel_rfl) (by kernel_rfl) (fun _ _ _ h => h) (by rfl) (fun w' hw' => ?_) (fun _ => rfl) hS0 ?_
        rotate_left
        · (obtain ⟨s0, s1, s2, s3, s4, s5⟩ := hw'; have s9 := HLK.out w' s5; go_simp; try with_reducible rfl)
        refine KeptAny.one (i := 12) (by kernel_rfl) rfl (by rfl) (fun K hK => ?_)
        go_simp
        clear hS0 z2
        obtain ⟨T3, hT3⟩ : ∃ T3 : ByteArray, T1 ++ (⟨#[62]⟩ : ByteArray) ++ T2 = T3 := ⟨_, rfl⟩
        rw [hT3]
        have HT3 : Hid (T3 = ⟨(rowT ss (i, j, it)).toArray⟩) := Lib.hid (by rw [← hT3, ← HT1.out]; exact row_bytes (q := (i, j, it)) HT2.out)
        clear hT3
        have HB8 := Lib.hid (HB7.out.alloc HB7.out.size (.cells #[.string T3] 9))
        refine hK.out _ _ (HS.out _ HB8.out) (fun hS => ?_)
        clear hK
        have hb7 := HB7.out
        have hB7 : Boxed w7 (w1.heap.size + 1) 70 u := (hb7.block _ HI.out.1.lt).trans HI.out.1
        have hrow7 := ownsRow_below HI.out.2.1 hb7
        have hsz7 : w1.heap.size + 1 ≤ w7.heap.size := Nat.le_of_lt hB7.lt
        obtain ⟨v', w9, hrun, hown', hgrow⟩ := append_str0 hrow7 T3 HLN.out hsz7 70
        have hown2 := hown'
        obtain ⟨g', cap', rfl⟩ := ownsRow_succ hown'
        simp [go_sem] at hrun
        obtain ⟨hv1, hv2, hr2, hk2, hb2⟩ := hB7.appended (by decide) hrow7 hsz7 (Nat.le_refl _) hown2 hgrow
        have cc1 := hv1.cell
        have ff1 := hv1.frozen
        have HP := Lib.hid (And.intro hv2 (And.intro hr2 (And.intro hk2 hb2)))
        have HB7W := Lib.hid (hb7.mono HI.out.2.2.2.1.size)
        have HKF := Lib.hid (keepsOthers_of_below hb7)
        have HRR7 := Lib.hid (HI.out.2.2.2.2.below hb7 HI.out.2.2.2.2.lt)
        have hmr : w9.heap[MR]? = W.heap[MR]? := by
          obtain ⟨es, clock, h1, _⟩ := HRW.out.mean.map
          have h2 := HB7.out.block MR HRW.out.mean.lt
          have h3 : MR < w7.heap.size := Nat.lt_of_lt_of_le HRW.out.mean.lt HB7.out.size
          rw [hgrow.block MR (by simp; omega) (fun e => by
            obtain ⟨_, m2 | ⟨g2, c2, cur2, hv2, _, hh2, _⟩⟩ := hrow7
            · rw [m2.1] at e; cases e
            · rw [hv2] at e
              have e2 : MR = g2 := Option.some.inj e
              rw [← e2, h2, h1] at hh2
              cases hh2), Below.heap_alloc _ _ _ h3, h2]
        have hSW := (show w9.cell? ⟨w1.heap.size + 1, 0, none⟩ = some u ∧ w9.cell? ⟨Bp, 0, none⟩ = some (.int .i64 (i : Int)) ∧ w9.cell? ⟨Bp, 1, none⟩ = some (.int .i64 (j : Int)) ∧ w9.cell? ⟨w1.heap.size, 0, none⟩ = some (.pointer (some ⟨R, 0, none⟩)) ∧ w9.cell? ⟨R, 1, none⟩ = some (.map (some MR)) ∧ w9.heap[MR]? = W.heap[MR]? from
          ⟨cc1, ((HPX.out.below HB7.out HPX.out.lt).alloc _ |>.grown hgrow (ownsRow_ne (HPX.out.below HB7.out HPX.out.lt) (by decide) hrow7)).cell (i := 0) (by rfl), ((HPX.out.below HB7.out HPX.out.lt).alloc _ |>.grown hgrow (ownsRow_ne (HPX.out.below HB7.out HPX.out.lt) (by decide) hrow7)).cell (i := 1) (by rfl),
            (HRR7.out.alloc _ |>.grown hgrow (ownsRow_ne HRR7.out (by decide) hrow7)).cell (i := 0) (by rfl), ((HRW.out.box.below HB7.out HRW.out.box.lt).alloc _ |>.grown hgrow (ownsRow_ne (HRW.out.box.below HB7.out HRW.out.box.lt) (by decide) hrow7)).cell (i := 1) (by rfl), hmr⟩)
        clear hb7 hB7 hrow7 hown' hown2 hgrow hv1 hv2 hr2 hk2 hb2 hS
        refine KeptAny.one (i := 13) (by kernel_rfl) rfl (by rfl) (fun K hK => ?_)
        go_simp
        refine hK.out _ _ hSW (fun _ => ?_)
        clear hK hrun hSW
        refine KeptAny.last (by kernel_rfl) rfl (by rfl) (fun K hK => ?_)
        go_simp
        refine hK.out _ _ ?_
        clear hK cc1 ff1
        refine KeptAny.done (by kernel_rfl) ?_ _
        gi_wp2
        refine ⟨(HKF.out.trans HP.out.2.2.1).from _, .of_below (HB7W.out.trans (HP.out.2.2.2.mono (by omega))), ⟨_, HP.out.1, ?_, trivial⟩, (HI.out.2.2.1.trans (.of_below HB7W.out)).trans (.of_below (HP.out.2.2.2.mono (by omega))), (HI.out.2.2.2.1.trans HB7W.out).trans (HP.out.2.2.2.mono (by omega)), HRR7.out.below HP.out.2.2.2 (by omega)⟩
        rw [HE.out, List.length_append, List.map_append]
        rw [← HT3.out]
        exact HP.out.2.1
    case done =>
      rintro D xs W hD hS ⟨⟨u, hB, hrow, -⟩, hck, hbw, hrr⟩ hK
      have cB := hB.cell
      have HS2 : Hid (elTx xs = rowsB ss (placed 0 ss)) := Lib.hid (by unfold elTx; rw [hS])
      have HGW := Lib.hid (HG.out.below (HB.out.trans (hbw.mono HB.out.size)) HG.out.size)
      have HBW := Lib.hid (HB.out.trans (hbw.mono HB.out.size))
      rw [HS2.out] at hrow
      clear hS hck hrr hbw hB
      have hDD : w.heap.size ≤ D := by have := HB.out.size; simp at hD; omega
      by_cases he : rowsT ss (placed 0 ss) = []
      · have h0 : rowsB ss (placed 0 ss) = [] := by unfold rowsB; rw [he]; rfl
        rw [h0] at hrow
        obtain ⟨ob, cb, rfl⟩ := texts_shape hrow
        have HT : Hid (([45] : List UInt8) = tableT ss) := Lib.hid (by unfold tableT; rw [if_pos he])
        clear he h0 hrow
        gi_wp2
        refine ⟨by simp, .inl ⟨_, _, rfl, run_takeDeferred hK, ?_⟩⟩
        exact ⟨_, results_tmp rfl _ _ _, ⟨_, rfl, .inl ⟨HV.out, HT.out⟩, HBW.out.trans (belowK_b (w := w) (Nat.le_refl _) W D _ _ hDD hK rfl rfl)⟩⟩
      · have hpos : 0 < (rowsB ss (placed 0 ss)).length := by unfold rowsB; rw [List.length_map]; exact List.length_pos_iff.2 he
        obtain ⟨g, cap2, rfl, hxl, hgB, hgs, hcp, hcells⟩ := texts_open hrow hpos
        have hlt := tabT_len HV.out (l := placed 0 ss) (fun q hq => hq) (placed_bound 0 ss 6 5 HV.out.count.2 HV.out.five)
        have hn30 : (rowsB ss (placed 0 ss)).length ≤ 30 := Nat.le_trans (rowsB_length ss _) (placed_bound 0 ss 6 5 HV.out.count.2 HV.out.five)
        have J := Tryz.strings_Join g 0 cap2 (rowsB ss (placed 0 ss)) ⟨#[59]⟩ W hcells hgs (by omega) hcp (by rw [rowsB_data]; exact Nat.le_trans hlt (by omega))
        rw [rowsB_data] at J
        have HJ := Lib.hid J
        have hne : (((rowsB ss (placed 0 ss)).length : Int) == 0) = false := by rw [beq_eq_false_iff_ne]; omega
        have HT : Hid (tabT ss (placed 0 ss) = tableT ss) := Lib.hid (by unfold tableT; rw [if_neg he])
        have HK := Lib.hid hK
        have hDW : D < W.heap.size := (Array.getElem?_eq_some_iff.1 hK).1
        clear he hrow hcells J hlt hK hxl
        gi_wp2_with fail
        refine ⟨trivial, ?_⟩
        gi_at_call 63
        refine ((callsIn_wide (n := 5)).2 HJ.out).mono ?_
        rintro e w9 ⟨rfl, hb9⟩
        have hK9 : w9.heap[D]? = some (.deferred (some [])) := (hb9.block D hDW).trans HK.out
        have HB9 := Lib.hid (HBW.out.trans (hb9.mono HBW.out.size))
        clear hb9
        gi_wp2
        refine ⟨by simp, .inl ⟨_, _, rfl, run_takeDeferred hK9, ?_⟩⟩
        exact ⟨_, results_tmp rfl _ _ _, ⟨_, rfl, .inl ⟨HV.out, HT.out⟩, HB9.out.trans (belowK_b (w := w) (Nat.le_refl _) w9 D _ _ hDD hK9 rfl rfl)⟩⟩
    case stop =>
      rintro D c pre W _ _ h _
      exact h.elim
end Go.Proofs.YtjogfagjcpcihaaGreatDoor
