/-
  The walks of the given l1Places and PlacesOf. Condition: the argument's memory holds the graph.
-/
import Derived.Test.YtppgdigcopkeiaaDoorWMarksP
namespace Go.Proofs.YtppgdigcopkeiaaDoor
open Go Go.RowKit
/-- The places of a kind among some items, in order. -/
def plsOf (kind : Int) (l : List (Nat × Nat × It)) : List (Int × Int) := (l.filter fun q => q.2.2.kind == kind).map fun q => ((q.1 : Int), (q.2.1 : Int))
theorem plsOf_snoc (kind : Int) (l : List (Nat × Nat × It)) (q : Nat × Nat × It) : plsOf kind (l ++ [q]) = plsOf kind l ++ if q.2.2.kind = kind then [((q.1 : Int), (q.2.1 : Int))] else [] := by
  unfold plsOf
  rw [List.filter_append, List.map_append]
  congr 1
  by_cases h : q.2.2.kind = kind
  · rw [if_pos h]; simp [h]
  · rw [if_neg h]; simp [h]
theorem plsOf_length (kind : Int) (l : List (Nat × Nat × It)) : (plsOf kind l).length ≤ l.length := by
  unfold plsOf
  rw [List.length_map]
  exact List.length_filter_le _ _
/-- The places of a kind. -/
def plsP (ss : List Sc) (kind : Int) : List (Int × Int) := plsOf kind (placed 0 ss)
theorem placed_bound : ∀ (i : Nat) (ss : List Sc) (n m : Nat), ss.length ≤ n → (∀ s ∈ ss, s.items.length ≤ m) → (placed i ss).length ≤ n * m
  | _, [], n, m, _, _ => by simp [placed]
  | i, s :: r, n, m, hn, hm => by
    obtain ⟨n', rfl⟩ : ∃ n', n = n' + 1 := ⟨n - 1, by simp at hn; omega⟩
    have ih := placed_bound (i + 1) r n' m (by simp at hn; omega) (fun s hs => hm s (List.mem_cons_of_mem _ hs))
    have h1 := hm s List.mem_cons_self
    simp only [placed, List.length_append, List.length_map, List.length_zipIdx]
    rw [Nat.add_mul, Nat.one_mul]
    omega
theorem uptoP_bound {ss : List Sc} {k j n m : Nat} (hn : ss.length ≤ n) (hm : ∀ s ∈ ss, s.items.length ≤ m) {s : Sc} (hs : ss[k]? = some s) : (uptoP ss k j).length ≤ n * m :=
  Nat.le_trans (uptoP_prefix (j := j) hs).length_le (placed_bound 0 ss n m hn hm)
theorem uptoP_bound0 {ss : List Sc} {k n m : Nat} (hn : ss.length ≤ n) (hm : ∀ s ∈ ss, s.items.length ≤ m) (hk : k ≤ ss.length) : (uptoP ss k 0).length ≤ n * m := by
  by_cases h : k < ss.length
  · exact uptoP_bound hn hm (List.getElem?_eq_getElem h)
  · obtain rfl : k = ss.length := by omega
    rw [uptoP_all]; exact placed_bound 0 ss n m hn hm
theorem ownsRow_ne2 {w : World} {g base n size : Nat} {t e : TypeId} {vs xs : List Value} {v : Value} (hr : Row w g t vs) (ht : t ≠ e) (h : w.ownsRow base e size v n xs) : some g ≠ v.ownBlock := ownsRow_ne hr ht h
/-- What holds at the head of a round of either loop. -/
structure PlsAt (w wr : World) (oa : Option Addr) (cap n : Nat) (v : Value) (l : List (Int × Int)) : Prop where
  box : Row wr w.heap.size 30 [.slice oa n cap]
  row : wr.ownsRow w.heap.size 34 2 v l.length (placeCells l)
  below : Below w.heap.size w wr
theorem PlsAt.step {w wr w' : World} {oa : Option Addr} {cap n : Nat} {v : Value} {l : List (Int × Int)} (h : PlsAt w wr oa cap n v l) (hb : Below wr.heap.size wr w') : PlsAt w w' oa cap n v l where
  box := h.box.below hb h.box.lt
  row := ownsRow_below h.row hb
  below := h.below.trans (hb.mono h.below.size)
set_option maxRecDepth 100000 in
set_option maxHeartbeats 1600000 in
theorem l1Places_any (ss : List Sc) (hn6 : ss.length ≤ 6) (hm5 : ∀ s ∈ ss, s.items.length ≤ 5) (oa : Option Addr) (cap : Nat) (kind : Int) (w : World) (hc : HoldsScopes w oa ss) :
    Calls Tryd.prog 110 #[.agg #[.slice oa ss.length cap], .int .i64 kind] w (PlsGot (plsP ss kind) w) := by
  have hb0 := ((Below.refl w.heap.size w).alloc (Nat.le_refl _) (.cells #[.slice oa ss.length cap] 30)).alloc (by simp) (.cells #[] 34)
  have hR0 := (Row.new w [.slice oa ss.length cap] 30).alloc (.cells #[] 34)
  have hown0 : ((w.alloc (.cells #[.slice oa ss.length cap] 30)).alloc (.cells #[] 34)).ownsRow w.heap.size 34 2 (.slice (some ⟨w.heap.size + 1, 0, none⟩) 0 0) 0 [] := by
    have h0 := World.ownsRow_made (base := w.heap.size) (e := 34) (size := 2) (w.alloc (.cells #[.slice oa ss.length cap] 30)) #[] 0 (by simp) (by unfold maxLen; omega) rfl
    rw [World.size_alloc] at h0
    exact h0
  have HP0 : Hid (PlsAt w ((w.alloc (.cells #[.slice oa ss.length cap] 30)).alloc (.cells #[] 34)) oa cap ss.length (.slice (some ⟨w.heap.size + 1, 0, none⟩) 0 0) []) := Lib.hid ⟨hR0, hown0, hb0⟩
  have HC := Lib.hid hc
  have HM := Lib.hid hm5
  have g00 := hR0.cell (i := 0) (by rfl)
  clear hc hm5 hb0 hR0 hown0
  go_enter Tryd.func110, Tryd.ntmps110
  go_wp2
  go_loopw [5, 14] (fun v i wr => ∃ k : Nat, i = .int .i64 k ∧ k ≤ ss.length ∧ Hid (PlsAt w wr oa cap ss.length v (plsOf kind (uptoP ss k 0)))) (fun _ i _ => ss.length - (intOf i).toNat)
  case atStart => exact ⟨0, rfl, Nat.zero_le _, Lib.hid (by rw [uptoP_start]; exact HP0.out)⟩
  case round =>
    obtain ⟨k, rfl, hk, hP⟩ := hrel
    by_cases hlt : k < ss.length
    · obtain ⟨s, hs⟩ : ∃ s, ss[k]? = some s := ⟨_, List.getElem?_eq_getElem hlt⟩
      obtain ⟨bb, off, rfl, hbb, hcell⟩ := HC.out.at (by omega)
      obtain ⟨oi, ci, a0, a1, hci⟩ := hcell k s hs
      have hil := HM.out s (List.mem_of_getElem? hs)
      have b0 := (hP.out.below.cell (p := ⟨bb, off + k * 2, none⟩) hbb).trans a0
      have b1 := (hP.out.below.cell (p := ⟨bb, off + k * 2 + 1, none⟩) hbb).trans a1
      have HS := Lib.hid hs
      have HI := Lib.hid hci
      have hbx := (Below.refl wr.heap.size wr).alloc (Nat.le_refl _) (.cells #[.int .i64 s.parent, .slice oi s.items.length ci] 69)
      have HP1 := Lib.hid (hP.out.step hbx)
      have hwr := hP.out.below.size
      clear hs hcell hci a0 a1 hbx
      go_wp2
      go_loopw [5, 22] (fun v i wr => ∃ j : Nat, i = .int .i64 j ∧ j ≤ s.items.length ∧ Hid (PlsAt w wr (some ⟨bb, off, none⟩) cap ss.length v (plsOf kind (uptoP ss k j)))) (fun _ i _ => s.items.length - (intOf i).toNat)
      case atStart => exact ⟨0, rfl, Nat.zero_le _, HP1⟩
      case round =>
        obtain ⟨j, rfl, hj, hP2⟩ := hrel
        by_cases hlt2 : j < s.items.length
        · obtain ⟨x, hx⟩ : ∃ x, s.items[j]? = some x := ⟨_, List.getElem?_eq_getElem hlt2⟩
          obtain ⟨b2, o2, rfl, hb2, hcell2⟩ := HI.out.at (by omega)
          obtain ⟨x0, x1, x2⟩ := hcell2 j x hx
          have y0 := (hP2.out.below.cell (p := ⟨b2, o2 + j * 3, none⟩) hb2).trans x0
          have y1 := (hP2.out.below.cell (p := ⟨b2, o2 + j * 3 + 1, none⟩) hb2).trans x1
          have y2 := (hP2.out.below.cell (p := ⟨b2, o2 + j * 3 + 2, none⟩) hb2).trans x2
          have hbx := (Below.refl wr.heap.size wr).alloc (Nat.le_refl _) (.cells #[.int .i64 x.kind, .string x.name, .int .i64 x.scope] 60)
          have HP3 := Lib.hid (hP2.out.step hbx)
          have hpl := Nat.le_trans (plsOf_length kind (uptoP ss k j)) (uptoP_bound (j := j) hn6 HM.out HS.out)
          have HST := Lib.hid (plsOf_snoc kind (uptoP ss k j) (k, j, x))
          have HNX := Lib.hid (uptoP_next HS.out hx)
          clear hx hcell2 x0 x1 x2 hbx
          by_cases he : x.kind = kind
          · have hq : (x.kind == kind) = true := by simpa using he
            have HE : Hid (plsOf kind (uptoP ss k (j + 1)) = plsOf kind (uptoP ss k j) ++ [((k : Int), (j : Int))]) := Lib.hid (by rw [HNX.out, HST.out, if_pos he])
            generalize hpe : plsOf kind (uptoP ss k j) = pre at hpl
            rw [hpe] at HP3 HE
            have hrow3 := HP3.out.row
            obtain ⟨i0, hi0, hz0, hz1, hz2⟩ := info_parts infoPl
            have hbs3 := HP3.out.below.size
            have hbs2 := hP2.out.below.size
            clear hpe he
            go_wp2_with (at_builtin; refine wpList_append_own _ rfl _ _ 39 rfl w.heap.size 34 i0 (.agg #[.int .i64 0, .int .i64 0]) 2 16 Tryd.underlying39 hi0 hz0 hz1 hz2 rfl (by decide) _ _ _ rfl (hrow3.alloc _) ⟨wr.heap.size + 1, 0, none⟩ 1 1 [.int .i64 (k : Int), .int .i64 (j : Int)] rfl rfl ?c1 ?c2 ?c3 ?c4 ?c5 ?_)
            all_goals try (case c1 => exact cells_new2 _ _ _ _)
            all_goals try (case c2 => first | (exact ⟨rfl, rfl⟩) | (intro u hu; simp only [List.mem_cons, List.mem_nil_iff, or_false] at hu; rcases hu with rfl | rfl <;> rfl))
            all_goals try (case c3 => unfold maxLen; omega)
            all_goals try (case c4 => omega)
            all_goals try (case c5 => first | omega | (simp only [World.size_alloc]; omega) | (simp; omega))
            intro v' w' hown' hgrow _
            have HP4 : Hid (PlsAt w w' (some ⟨bb, off, none⟩) cap ss.length v' (plsOf kind (uptoP ss k (j + 1)))) := Lib.hid {
              box := (HP3.out.box.alloc (.cells #[.int .i64 (k : Int), .int .i64 (j : Int)] 34)).grown hgrow (ownsRow_ne2 HP3.out.box (by decide) HP3.out.row)
              row := by rw [HE.out, List.length_append, placeCells_snoc]; exact hown'
              below := HP3.out.below.trans (below_append2 HP3.out.row hgrow (Nat.le_refl w.heap.size) hbs3) }
            clear hown' hgrow hrow3
            go_wp2
            go_roundw
            case rel => exact ⟨j + 1, by go_num, by omega, HP4⟩
            case measure => simp only [intOf]; omega
          · have hq : (x.kind == kind) = false := by simpa using he
            have HE : Hid (plsOf kind (uptoP ss k (j + 1)) = plsOf kind (uptoP ss k j)) := Lib.hid (by rw [HNX.out, HST.out, if_neg he, List.append_nil])
            clear he
            go_wp2
            go_roundw
            case rel => exact ⟨j + 1, by go_num, by omega, by rw [HE.out]; exact HP3⟩
            case measure => simp only [intOf]; omega
        · obtain rfl : j = s.items.length := by omega
          have HP2 : Hid (PlsAt w wr (some ⟨bb, off, none⟩) cap ss.length _ (plsOf kind (uptoP ss (k + 1) 0))) := Lib.hid (by have := hP2.out; rw [uptoP_scope HS.out] at this; exact this)
          go_wp2
          go_roundw
          case rel => exact ⟨k + 1, by go_num, by omega, HP2⟩
          case measure => simp only [intOf]; omega
    · obtain rfl : k = ss.length := by omega
      have HE := Lib.hid (uptoP_all ss)
      go_wp2
      go_ret
      exact ⟨_, rfl, by have := hP.out.row; rw [HE.out] at this; exact this, hP.out.below⟩
/-- Is a kind one of the three? -/
theorem kind_in (kind : Int) : inB kind 1 3 = true ↔ 1 ≤ kind ∧ kind ≤ 3 := by simp [inB]
/-- What PlacesOf answers. -/
def kindOk (ss : List Sc) (kind : Int) : Prop := Valid ss ∧ inB kind 1 3 = true
theorem Valid.five {ss : List Sc} (h : Valid ss) : ∀ s ∈ ss, s.items.length ≤ 5 := fun s hs => by
  obtain ⟨i, hi⟩ := List.mem_iff_getElem?.1 hs
  exact scope_items (h.scopes i s hi)
end Go.Proofs.YtppgdigcopkeiaaDoor
