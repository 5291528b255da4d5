/-
  The text of a list of places, and how a loop comes to it. Plain facts. Plain facts about decimal numbers in texts: which byte lists are canonical numbers of at most 17 digits, their values, and that Atoi and Itoa (as the library's functions on bytes) agree with that. No condition; nothing of the program. Plain facts about a text cut at a byte: 'parts c l' are the pieces of l between the bytes c, at least one; how a loop that cuts comes to them; and when there are just two. No condition; nothing of the program. The walks of the given l1Places and PlacesOf. Condition: the argument's memory holds the graph. The walk of spec.l13Dec: at every number it returns its decimal numeral, as Itoa does; only new memory is written. The walk of spec.l13Num: at every text it returns the canonical number and whether there is one; memory stays as it is. The walk of spec.l13Cut: at every text of at most 2^20 bytes and every byte it returns a slice of its own that holds the pieces of the text between these bytes; what was there before stays. The walks of the laws' copies of lists of places: toPlaceS, szPlaceS. Condition: the list has at most 2^20 places. The walk of spec.FormatPlaces: at every list of at most 2^20 places of 64-bit numbers it returns the text of the places; only new memory is written. The text of a graph, and how a loop comes to it. Plain facts. The walks of the given l1Text and FormatGraph: a valid graph's text; that of another one is empty. Condition: the argument's memory holds the graph. The walk of the given l1Read: the item that a text tells. The walk of spec.ParsePlace: at every text of at most 2^20 bytes it returns the place that the text tells, and whether it tells one; what was there before stays. Graphs in memory of the call's own, that grow; the walks of the given l13OwnScope, l13OwnListScope and l13OwnGraph. Condition: the argument's memory holds the graph. What a text tells as a graph, and what memory holds while it is read. Plain facts. The walks of the given l1RawParseGraph, l13OwnGraph and ParseGraph: what a text tells, if it is that of a valid graph.
-/
import Derived.Test.YtgehpaojbnpbcaaGreatDoorBaseZ
import Derived.Lib.ItoaLen
import Derived.Lib.Join
import Derived.Lib.Atoi
import Derived.Lib.ItoaNum
import Derived.Lib.IndexMore
import Derived.Lib.IndexLaws
import Derived.Test.YtgehpaojbnpbcaaGreatDoorJBZ
import Derived.Test.YtgehpaojbnpbcaaGreatDoorProg
import Derived.WalkKit
import Derived.Lib.Hide
import Derived.Outline
import Derived.Laws.BytesArg
import Derived.Deep.DeepCutAuto
import Derived.Test.YtgehpaojbnpbcaaGreatDoorWSpecValidZ
import Derived.Deep.RegionHeld3
import Derived.Deep.RegionWith
import Derived.Deep.Upon
namespace Go.Proofs.YtgehpaojbnpbcaaGreatDoor.Sg
open Go Go.Lib
end Go.Proofs.YtgehpaojbnpbcaaGreatDoor.Sg
namespace Go.Proofs.YtgehpaojbnpbcaaGreatDoor.Sg
open Go Go.Lib

end Go.Proofs.YtgehpaojbnpbcaaGreatDoor.Sg
namespace Go.Proofs.YtgehpaojbnpbcaaGreatDoor.Sg
open Go Go.Lib

end Go.Proofs.YtgehpaojbnpbcaaGreatDoor.Sg
namespace Go.Proofs.YtgehpaojbnpbcaaGreatDoor
open Go Go.RowKit
/-- The places of a kind among some items, in order. -/
def plsOf (kind : Int) (l : List (Nat × Nat × It)) : List (Int × Int) := (l.filter fun q => q.2.2.kind == kind).map fun q => ((q.1 : Int), (q.2.1 : Int))
theorem plsOf_snoc (kind : Int) (l : List (Nat × Nat × It)) (q : Nat × Nat × It) : plsOf kind (l ++ [q]) = plsOf kind l ++ if q.2.2.kind = kind then [((q.1 : Int), (q.2.1 : Int))] else [] := by
  unfold plsOf
  rw [List.filter_append, List.map_append]
  congr 1
  by_cases h : q.2.2.kind = kind
  · rw [if_pos h]; simp [h]
  · rw [if_neg h]; simp [h]
theorem plsOf_length (kind : Int) (l : List (Nat × Nat × It)) : (plsOf kind l).length ≤ l.length := by
  unfold plsOf
  rw [List.length_map]
  exact List.length_filter_le _ _
/-- The places of a kind. -/
def plsP (ss : List Sc) (kind : Int) : List (Int × Int) := plsOf kind (placed 0 ss)
theorem placed_bound : ∀ (i : Nat) (ss : List Sc) (n m : Nat), ss.length ≤ n → (∀ s ∈ ss, s.items.length ≤ m) → (placed i ss).length ≤ n * m
  | _, [], n, m, _, _ => by simp [placed]
  | i, s :: r, n, m, hn, hm => by
    obtain ⟨n', rfl⟩ : ∃ n', n = n' + 1 := ⟨n - 1, by simp at hn; omega⟩
    have ih := placed_bound (i + 1) r n' m (by simp at hn; omega) (fun s hs => hm s (List.mem_cons_of_mem _ hs))
    have h1 := hm s List.mem_cons_self
    simp only [placed, List.length_append, List.length_map, List.length_zipIdx]
    rw [Nat.add_mul, Nat.one_mul]
    omega
theorem uptoP_bound {ss : List Sc} {k j n m : Nat} (hn : ss.length ≤ n) (hm : ∀ s ∈ ss, s.items.length ≤ m) {s : Sc} (hs : ss[k]? = some s) : (uptoP ss k j).length ≤ n * m :=
  Nat.le_trans (uptoP_prefix (j := j) hs).length_le (placed_bound 0 ss n m hn hm)
theorem ownsRow_ne2 {w : World} {g base n size : Nat} {t e : TypeId} {vs xs : List Value} {v : Value} (hr : Row w g t vs) (ht : t ≠ e) (h : w.ownsRow base e size v n xs) : some g ≠ v.ownBlock := ownsRow_ne hr ht h
/-- What holds at the head of a round of either loop. -/
structure PlsAt (w wr : World) (oa : Option Addr) (cap n : Nat) (v : Value) (l : List (Int × Int)) : Prop where
  box : Row wr w.heap.size 28 [.slice oa n cap]
  row : wr.ownsRow w.heap.size 59 2 v l.length (placeCells l)
  below : Below w.heap.size w wr
theorem PlsAt.step {w wr w' : World} {oa : Option Addr} {cap n : Nat} {v : Value} {l : List (Int × Int)} (h : PlsAt w wr oa cap n v l) (hb : Below wr.heap.size wr w') : PlsAt w w' oa cap n v l where
  box := h.box.below hb h.box.lt
  row := ownsRow_below h.row hb
  below := h.below.trans (hb.mono h.below.size)
set_option maxRecDepth 100000 in
set_option maxHeartbeats 1600000 in
theorem l1Places_any (ss : List Sc) (hn6 : ss.length ≤ 6) (hm5 : ∀ s ∈ ss, s.items.length ≤ 5) (oa : Option Addr) (cap : Nat) (kind : Int) (w : World) (hc : HoldsScopes w oa ss) :
    Calls Tryz.prog 52 #[.agg #[.slice oa ss.length cap], .int .i64 kind] w (PlsGot (plsP ss kind) w) := by
  have hb0 := ((Below.refl w.heap.size w).alloc (Nat.le_refl _) (.cells #[.slice oa ss.length cap] 28)).alloc (by simp) (.cells #[] 59)
  have hR0 := (Row.new w [.slice oa ss.length cap] 28).alloc (.cells #[] 59)
  have hown0 : ((w.alloc (.cells #[.slice oa ss.length cap] 28)).alloc (.cells #[] 59)).ownsRow w.heap.size 59 2 (.slice (some ⟨w.heap.size + 1, 0, none⟩) 0 0) 0 [] := by
    have h0 := World.ownsRow_made (base := w.heap.size) (e := 59) (size := 2) (w.alloc (.cells #[.slice oa ss.length cap] 28)) #[] 0 (by simp) (by unfold maxLen; omega) rfl
    rw [World.size_alloc] at h0
    exact h0
  have HP0 : Hid (PlsAt w ((w.alloc (.cells #[.slice oa ss.length cap] 28)).alloc (.cells #[] 59)) oa cap ss.length (.slice (some ⟨w.heap.size + 1, 0, none⟩) 0 0) []) := Lib.hid ⟨hR0, hown0, hb0⟩
  have HC := Lib.hid hc
  have HM := Lib.hid hm5
  have g00 := hR0.cell (i := 0) (by rfl)
  clear hc hm5 hb0 hR0 hown0
  go_enter Tryz.func52, Tryz.ntmps52
  go_wp2
  go_loopw [5, 14] (fun v i wr => ∃ k : Nat, i = .int .i64 k ∧ k ≤ ss.length ∧ Hid (PlsAt w wr oa cap ss.length v (plsOf kind (uptoP ss k 0)))) (fun _ i _ => ss.length - (intOf i).toNat)
  case atStart => exact ⟨0, rfl, Nat.zero_le _, Lib.hid (by rw [uptoP_start]; exact HP0.out)⟩
  case round =>
    obtain ⟨k, rfl, hk, hP⟩ := hrel
    by_cases hlt : k < ss.length
    · obtain ⟨s, hs⟩ : ∃ s, ss[k]? = some s := ⟨_, List.getElem?_eq_getElem hlt⟩
      obtain ⟨bb, off, rfl, hbb, hcell⟩ := HC.out.at (by omega)
      obtain ⟨oi, ci, a0, a1, hci⟩ := hcell k s hs
      have hil := HM.out s (List.mem_of_getElem? hs)
      have b0 := (hP.out.below.cell (p := ⟨bb, off + k * 2, none⟩) hbb).trans a0
      have b1 := (hP.out.below.cell (p := ⟨bb, off + k * 2 + 1, none⟩) hbb).trans a1
      have HS := Lib.hid hs
      have HI := Lib.hid hci
      have hbx := (Below.refl wr.heap.size wr).alloc (Nat.le_refl _) (.cells #[.int .i64 s.parent, .slice oi s.items.length ci] 67)
      have HP1 := Lib.hid (hP.out.step hbx)
      have hwr := hP.out.below.size
      clear hs hcell hci a0 a1 hbx
      go_wp2
      go_loopw [5, 22] (fun v i wr => ∃ j : Nat, i = .int .i64 j ∧ j ≤ s.items.length ∧ Hid (PlsAt w wr (some ⟨bb, off, none⟩) cap ss.length v (plsOf kind (uptoP ss k j)))) (fun _ i _ => s.items.length - (intOf i).toNat)
      case atStart => exact ⟨0, rfl, Nat.zero_le _, HP1⟩
      case round =>
        obtain ⟨j, rfl, hj, hP2⟩ := hrel
        by_cases hlt2 : j < s.items.length
        · obtain ⟨x, hx⟩ : ∃ x, s.items[j]? = some x := ⟨_, List.getElem?_eq_getElem hlt2⟩
          obtain ⟨b2, o2, rfl, hb2, hcell2⟩ := HI.out.at (by omega)
          obtain ⟨x0, x1, x2⟩ := hcell2 j x hx
          have y0 := (hP2.out.below.cell (p := ⟨b2, o2 + j * 3, none⟩) hb2).trans x0
          have y1 := (hP2.out.below.cell (p := ⟨b2, o2 + j * 3 + 1, none⟩) hb2).trans x1
          have y2 := (hP2.out.below.cell (p := ⟨b2, o2 + j * 3 + 2, none⟩) hb2).trans x2
          have hbx := (Below.refl wr.heap.size wr).alloc (Nat.le_refl _) (.cells #[.int .i64 x.kind, .string x.name, .int .i64 x.scope] 137)
          have HP3 := Lib.hid (hP2.out.step hbx)
          have hpl := Nat.le_trans (plsOf_length kind (uptoP ss k j)) (uptoP_bound (j := j) hn6 HM.out HS.out)
          have HST := Lib.hid (plsOf_snoc kind (uptoP ss k j) (k, j, x))
          have HNX := Lib.hid (uptoP_next HS.out hx)
          clear hx hcell2 x0 x1 x2 hbx
          by_cases he : x.kind = kind
          · have hq : (x.kind == kind) = true := by simpa using he
            have HE : Hid (plsOf kind (uptoP ss k (j + 1)) = plsOf kind (uptoP ss k j) ++ [((k : Int), (j : Int))]) := Lib.hid (by rw [HNX.out, HST.out, if_pos he])
            generalize hpe : plsOf kind (uptoP ss k j) = pre at hpl
            rw [hpe] at HP3 HE
            have hrow3 := HP3.out.row
            obtain ⟨i0, hi0, hz0, hz1, hz2⟩ := info_parts infoPl
            have hbs3 := HP3.out.below.size
            have hbs2 := hP2.out.below.size
            clear hpe he
            go_wp2_with (at_builtin; refine wpList_append_own _ rfl _ _ 36 rfl w.heap.size 59 i0 (.agg #[.int .i64 0, .int .i64 0]) 2 16 Tryz.underlying36 hi0 hz0 hz1 hz2 rfl (by decide) _ _ _ rfl (hrow3.alloc _) ⟨wr.heap.size + 1, 0, none⟩ 1 1 [.int .i64 (k : Int), .int .i64 (j : Int)] rfl rfl ?c1 ?c2 ?c3 ?c4 ?c5 ?_)
            all_goals try (case c1 => exact cells_new2 _ _ _ _)
            all_goals try (case c2 => first | (exact ⟨rfl, rfl⟩) | (intro u hu; simp only [List.mem_cons, List.mem_nil_iff, or_false] at hu; rcases hu with rfl | rfl <;> rfl))
            all_goals try (case c3 => unfold maxLen; omega)
            all_goals try (case c4 => omega)
            all_goals try (case c5 => first | omega | (simp only [World.size_alloc]; omega) | (simp; omega))
            intro v' w' hown' hgrow _
            have HP4 : Hid (PlsAt w w' (some ⟨bb, off, none⟩) cap ss.length v' (plsOf kind (uptoP ss k (j + 1)))) := Lib.hid {
              box := (HP3.out.box.alloc (.cells #[.int .i64 (k : Int), .int .i64 (j : Int)] 59)).grown hgrow (ownsRow_ne2 HP3.out.box (by decide) HP3.out.row)
              row := by rw [HE.out, List.length_append, placeCells_snoc]; exact hown'
              below := HP3.out.below.trans (below_append2 HP3.out.row hgrow (Nat.le_refl w.heap.size) hbs3) }
            clear hown' hgrow hrow3
            go_wp2
            go_roundw
            case rel => exact ⟨j + 1, by go_num, by omega, HP4⟩
            case measure => simp only [intOf]; omega
          · have hq : (x.kind == kind) = false := by simpa using he
            have HE : Hid (plsOf kind (uptoP ss k (j + 1)) = plsOf kind (uptoP ss k j)) := Lib.hid (by rw [HNX.out, HST.out, if_neg he, List.append_nil])
            clear he
            go_wp2
            go_roundw
            case rel => exact ⟨j + 1, by go_num, by omega, by rw [HE.out]; exact HP3⟩
            case measure => simp only [intOf]; omega
        · obtain rfl : j = s.items.length := by omega
          have HP2 : Hid (PlsAt w wr (some ⟨bb, off, none⟩) cap ss.length _ (plsOf kind (uptoP ss (k + 1) 0))) := Lib.hid (by have := hP2.out; rw [uptoP_scope HS.out] at this; exact this)
          go_wp2
          go_roundw
          case rel => exact ⟨k + 1, by go_num, by omega, HP2⟩
          case measure => simp only [intOf]; omega
    · obtain rfl : k = ss.length := by omega
      have HE := Lib.hid (uptoP_all ss)
      go_wp2
      go_ret
      exact ⟨_, rfl, by have := hP.out.row; rw [HE.out] at this; exact this, hP.out.below⟩
theorem Valid.five {ss : List Sc} (h : Valid ss) : ∀ s ∈ ss, s.items.length ≤ 5 := fun s hs => by
  obtain ⟨i, hi⟩ := List.mem_iff_getElem?.1 hs
  exact scope_items (h.scopes i s hi)
end Go.Proofs.YtgehpaojbnpbcaaGreatDoor
namespace Go.Proofs.YtgehpaojbnpbcaaGreatDoor
open Go Go.RowKit Sg
theorem one_byte_cell (w : World) (x : Int) (i : Nat) (hi : i < 1) : (w.alloc (.cells #[.int .u8 x] 5)).cell? ⟨w.heap.size, 0 + i, none⟩ = some (.int .u8 ([x].getD i 0)) := by
  obtain rfl : i = 0 := by omega
  simp
/-- One byte made a text. -/
theorem conv_one (w : World) (x : Int) : (convert 88 9 (.slice (some ⟨w.heap.size, 0, none⟩) 1 1)).run Tryz.prog (w.alloc (.cells #[.int .u8 x] 5)) = .ok (.string (strOfNums [x])) (w.alloc (.cells #[.int .u8 x] 5)) :=
  run_convert_bytes_arg _ 88 5 Tryz.underlying88 Tryz.underlying5 w.heap.size 0 1 1 [x] rfl (one_byte_cell w x) 9 Tryz.underlying9
end Go.Proofs.YtgehpaojbnpbcaaGreatDoor
namespace Go.Proofs.YtgehpaojbnpbcaaGreatDoor.Sg
open Go Go.RowKit
end Go.Proofs.YtgehpaojbnpbcaaGreatDoor.Sg
namespace Go.Proofs.YtgehpaojbnpbcaaGreatDoor
open Go Go.RowKit Sg
end Go.Proofs.YtgehpaojbnpbcaaGreatDoor
namespace Go.Proofs.YtgehpaojbnpbcaaGreatDoor
open Go Go.RowKit Sg
end Go.Proofs.YtgehpaojbnpbcaaGreatDoor
namespace Go.Proofs.YtgehpaojbnpbcaaGreatDoor
open Go Go.RowKit
end Go.Proofs.YtgehpaojbnpbcaaGreatDoor
namespace Go.Proofs.YtgehpaojbnpbcaaGreatDoor
open Go Go.RowKit Sg
end Go.Proofs.YtgehpaojbnpbcaaGreatDoor
namespace Go.Proofs.YtgehpaojbnpbcaaGreatDoor
open Go Go.RowKit Sg
end Go.Proofs.YtgehpaojbnpbcaaGreatDoor
namespace Go.Proofs.YtgehpaojbnpbcaaGreatDoor
open Go Go.RowKit Sg
theorem cellG {W W' : World} {p : Addr} {v : Value} (hb : Below W.heap.size W W') (h : W.cell? p = some v) : W'.cell? p = some v := (hb.cell (World.block_lt_of_cell? _ _ h)).trans h
end Go.Proofs.YtgehpaojbnpbcaaGreatDoor
namespace Go.Proofs.YtgehpaojbnpbcaaGreatDoor
open Go Go.RowKit Sg
end Go.Proofs.YtgehpaojbnpbcaaGreatDoor
namespace Go.Proofs.YtgehpaojbnpbcaaGreatDoor
open Go Go.RowKit Sg
end Go.Proofs.YtgehpaojbnpbcaaGreatDoor
namespace Go.Proofs.YtgehpaojbnpbcaaGreatDoor
open Go Go.RowKit
/-- The cells of scopes whose items lie where these slices tell. -/
def scRow : List Sc → List Value → List Value
  | s :: r, u :: q => .int .i64 s.parent :: u :: scRow r q
  | _, _ => []
theorem scRow_snoc : ∀ {ss : List Sc} {hs : List Value} (s : Sc) (u : Value), hs.length = ss.length → scRow (ss ++ [s]) (hs ++ [u]) = scRow ss hs ++ [.int .i64 s.parent, u]
  | [], [], s, u, _ => rfl
  | t :: r, v :: q, s, u, h => by
    show .int .i64 t.parent :: v :: scRow (r ++ [s]) (q ++ [u]) = _
    rw [scRow_snoc s u (by simpa using h)]
    rfl
theorem scRow_at : ∀ {ss : List Sc} {hs : List Value} {i : Nat} {s : Sc} {u : Value}, ss[i]? = some s → hs[i]? = some u → (scRow ss hs)[i * 2]? = some (.int .i64 s.parent) ∧ (scRow ss hs)[i * 2 + 1]? = some u
  | t :: r, v :: q, 0, s, u, h1, h2 => by
    simp at h1 h2
    subst h1 h2
    exact ⟨rfl, rfl⟩
  | t :: r, v :: q, i + 1, s, u, h1, h2 => by
    have := scRow_at (ss := r) (hs := q) (i := i) (by simpa using h1) (by simpa using h2)
    rw [show (i + 1) * 2 = i * 2 + 2 from by omega]
    exact this
/-- A graph of the call's own: its scopes in one block, each scope's items in one of their own. -/
structure OwnGr (w : World) (B : Nat) (v : Value) (ss : List Sc) (hs : List Value) : Prop where
  len : hs.length = ss.length
  row : w.ownsRow B 67 2 v ss.length (scRow ss hs)
  items : ∀ (i : Nat) (s : Sc) (u : Value), ss[i]? = some s → hs[i]? = some u → w.ownsRow B 137 3 u s.items.length (itemCells s.items)
  apart : ∀ (i j : Nat) (u u' : Value), i ≠ j → hs[i]? = some u → hs[j]? = some u' → u.ownBlock = none ∨ u.ownBlock ≠ u'.ownBlock
theorem OwnGr.below {w w' : World} {B : Nat} {v : Value} {ss : List Sc} {hs : List Value} (h : OwnGr w B v ss hs) (hb : Below w.heap.size w w') : OwnGr w' B v ss hs :=
  ⟨h.len, ownsRow_below h.row hb, fun i s u h1 h2 => ownsRow_below (h.items i s u h1 h2) hb, h.apart⟩
theorem OwnGr.lower {w : World} {B B' : Nat} {v : Value} {ss : List Sc} {hs : List Value} (h : OwnGr w B v ss hs) (hB : B' ≤ B) : OwnGr w B' v ss hs :=
  ⟨h.len, h.row.mono hB, fun i s u h1 h2 => (h.items i s u h1 h2).mono hB, h.apart⟩
theorem holdsItems_of_owns {w : World} {B : Nat} {u : Value} {xs : List It} (h : w.ownsRow B 137 3 u xs.length (itemCells xs)) : ∃ oi ci, u = .slice oi xs.length ci ∧ HoldsItems w oi xs := by
  have hlt := h.lt
  have hcells := fun g hg => h.cells (g := g) hg
  obtain ⟨hl, h2 | ⟨g, cap, cur, hv, hB, hh, hn, _, hs, ht⟩⟩ := h
  · exact ⟨none, 0, by rw [h2.1, h2.2], .inl (List.eq_nil_of_length_eq_zero h2.2)⟩
  · subst hv
    refine ⟨_, cap, rfl, .inr ⟨g, 0, rfl, (hlt g rfl).2, fun i x hx => ?_⟩⟩
    obtain ⟨k0, k1, k2⟩ := itemCells_at xs i x hx
    have c := fun j u hu => hcells g rfl j u hu
    have c0 := c _ _ k0
    have c1 := c _ _ k1
    have c2 := c _ _ k2
    rw [Addr.add_lit] at c0 c1 c2
    exact ⟨c0, by rw [Nat.add_assoc]; exact c1, by rw [Nat.add_assoc]; exact c2⟩
theorem OwnGr.holds {w : World} {B : Nat} {v : Value} {ss : List Sc} {hs : List Value} (h : OwnGr w B v ss hs) : ∃ oa cap, v = .slice oa ss.length cap ∧ HoldsScopes w oa ss := by
  have hit := h.items
  have hln := h.len
  obtain ⟨-, hrow, -, -⟩ := h
  have hlt := hrow.lt
  have hcells := fun g hg => hrow.cells (g := g) hg
  obtain ⟨hl, h2 | ⟨g, cap, cur, hv, hB, hh, hn, _, hsz, ht⟩⟩ := hrow
  · exact ⟨none, 0, by rw [h2.1, h2.2], .inl (List.eq_nil_of_length_eq_zero h2.2)⟩
  · subst hv
    refine ⟨_, cap, rfl, .inr ⟨g, 0, rfl, (hlt g rfl).2, fun i s hs' => ?_⟩⟩
    obtain ⟨u, hu⟩ : ∃ u, hs[i]? = some u := ⟨_, List.getElem?_eq_getElem (by have := (List.getElem?_eq_some_iff.1 hs').1; omega)⟩
    obtain ⟨oi, ci, rfl, hi⟩ := holdsItems_of_owns (hit i s u hs' hu)
    obtain ⟨k0, k1⟩ := scRow_at hs' hu
    have c0 := hcells g rfl _ _ k0
    have c1 := hcells g rfl _ _ k1
    rw [Addr.add_lit] at c0 c1
    exact ⟨oi, ci, c0, by rw [Nat.add_assoc]; exact c1, hi⟩
theorem owns_types_apart {w : World} {b1 b2 n1 n2 s1 s2 : Nat} {t1 t2 : TypeId} {v1 v2 : Value} {xs1 xs2 : List Value} (h1 : w.ownsRow b1 t1 s1 v1 n1 xs1) (h2 : w.ownsRow b2 t2 s2 v2 n2 xs2) (ht : t1 ≠ t2) : v1.ownBlock = none ∨ v1.ownBlock ≠ v2.ownBlock := by
  obtain ⟨_, k1 | ⟨g1, c1, cur1, hv1, _, hh1, _⟩⟩ := h1
  · exact .inl (by rw [k1.1]; rfl)
  · obtain ⟨_, k2 | ⟨g2, c2, cur2, hv2, _, hh2, _⟩⟩ := h2
    · refine .inr ?_
      rw [k2.1, hv1]
      intro e
      cases e
    · refine .inr ?_
      rw [hv1, hv2]
      intro e
      simp only [Value.ownBlock, Option.some.injEq] at e
      subst e
      rw [hh1] at hh2
      injection hh2 with hh2
      injection hh2 with _ e2
      exact ht e2
/-- A row of one's own, when another block alone has turned. -/
theorem ownsRow_apart {w w' : World} {base n size : Nat} {e : TypeId} {v : Value} {xs : List Value} {row : Option Nat} (h : w.ownsRow base e size v n xs) (hg : w.grownBy w' row) (hne : v.ownBlock = none ∨ v.ownBlock ≠ row) : w'.ownsRow base e size v n xs := by
  obtain ⟨h1, h2 | ⟨g, cap, cur, hv, hB, hh, r⟩⟩ := h
  · exact ⟨h1, .inl h2⟩
  · refine ⟨h1, .inr ⟨g, cap, cur, hv, hB, (hg.block g (Array.getElem?_eq_some_iff.1 hh).1 ?_).trans hh, r⟩⟩
    rw [hv] at hne
    exact hne.resolve_left (by simp [Value.ownBlock])
/-- A scope more. -/
theorem OwnGr.snoc {w0 w w' : World} {B : Nat} {v v' u : Value} {ss : List Sc} {hs : List Value} {p : Int} {xs : List It} {o : Obj} (h0 : OwnGr w0 B v ss hs) (h : OwnGr w B v ss hs) (hu : w.ownsRow w0.heap.size 137 3 u xs.length (itemCells xs)) (hB : B ≤ w0.heap.size)
    (hg : (w.alloc o).grownBy w' v.ownBlock) (hown : w'.ownsRow B 67 2 v' (ss.length + 1) (scRow ss hs ++ [.int .i64 p, u])) : OwnGr w' B v' (ss ++ [⟨p, xs⟩]) (hs ++ [u]) where
  len := by simp [h.len]
  row := by
    rw [List.length_append, scRow_snoc _ _ h.len]
    exact hown
  items := fun i s z h1 h2 => by
    have far : ∀ {B' n : Nat} {z : Value} {zs : List Value}, w.ownsRow B' 137 3 z n zs → w'.ownsRow B' 137 3 z n zs := fun hz => ownsRow_apart (hz.alloc o) hg (owns_types_apart hz h.row (by decide))
    by_cases hi : i < ss.length
    · rw [List.getElem?_append_left hi] at h1
      rw [List.getElem?_append_left (by have := h.len; omega)] at h2
      exact far (h.items i s z h1 h2)
    · obtain ⟨rfl, rfl⟩ : i = ss.length ∧ s = ⟨p, xs⟩ := by
        have hl := (List.getElem?_eq_some_iff.1 h1).1
        simp only [List.length_append, List.length_singleton] at hl
        have hi' : i = ss.length := by omega
        subst hi'
        simp at h1
        exact ⟨rfl, h1.symm⟩
      have hz : z = u := by
        rw [← h.len] at h2
        simpa using h2.symm
      subst hz
      exact (far hu).mono hB
  apart := fun i j z z' hij h1 h2 => by
    have old : ∀ (k : Nat) (y : Value), hs[k]? = some y → (y.ownBlock = none ∨ y.ownBlock ≠ u.ownBlock) ∧ (u.ownBlock = none ∨ u.ownBlock ≠ y.ownBlock) := fun k y hy => by
      obtain ⟨s, hs'⟩ : ∃ s, ss[k]? = some s := ⟨_, List.getElem?_eq_getElem (by have := (List.getElem?_eq_some_iff.1 hy).1; have := h.len; omega)⟩
      have h3 := h0.items k s y hs' hy
      have key : ∀ g, y.ownBlock = some g → u.ownBlock = some g → False := fun g e1 e2 => by
        have a1 := (h3.lt g e1).2
        have a2 := (hu.lt g e2).1
        omega
      constructor
      · cases hy1 : y.ownBlock with
        | none => exact .inl rfl
        | some g => exact .inr fun e => key g hy1 e.symm
      · cases hu1 : u.ownBlock with
        | none => exact .inl rfl
        | some g => exact .inr fun e => key g e.symm hu1
    have at' : ∀ (k : Nat) (y : Value), (hs ++ [u])[k]? = some y → (k < hs.length ∧ hs[k]? = some y) ∨ (k = hs.length ∧ y = u) := fun k y hy => by
      by_cases hk : k < hs.length
      · rw [List.getElem?_append_left hk] at hy
        exact .inl ⟨hk, hy⟩
      · have hl := (List.getElem?_eq_some_iff.1 hy).1
        simp only [List.length_append, List.length_singleton] at hl
        have hk' : k = hs.length := by omega
        subst hk'
        simp at hy
        exact .inr ⟨rfl, hy.symm⟩
    rcases at' i z h1 with ⟨hi, h3⟩ | ⟨hi, rfl⟩
    · rcases at' j z' h2 with ⟨hj, h4⟩ | ⟨hj, rfl⟩
      · exact h.apart i j z z' hij h3 h4
      · exact (old i z h3).1
    · rcases at' j z' h2 with ⟨hj, h4⟩ | ⟨hj, rfl⟩
      · exact (old j z' h4).2
      · omega
/-- What a list of items yields to an append. -/
theorem items_src {w : World} {oi : Option Addr} {xs : List It} (h : HoldsItems w oi xs) : xs = [] ∨ ∃ b off, oi = some ⟨b, off, none⟩ ∧ ∀ j u, (itemCells xs)[j]? = some u → w.cell? ((⟨b, off, none⟩ : Addr).add j) = some u := by
  rcases h with h | ⟨b, off, h1, _, h3⟩
  · exact .inl h
  · refine .inr ⟨b, off, h1, fun j u hu => ?_⟩
    have hjl := (List.getElem?_eq_some_iff.1 hu).1
    rw [itemCells_length] at hjl
    obtain ⟨x, hx⟩ : ∃ x, xs[j / 3]? = some x := ⟨_, List.getElem?_eq_getElem (by omega)⟩
    obtain ⟨k0, k1, k2⟩ := itemCells_at xs _ x hx
    obtain ⟨c0, c1, c2⟩ := h3 _ x hx
    rw [Addr.add_lit]
    rcases (show j = j / 3 * 3 ∨ j = j / 3 * 3 + 1 ∨ j = j / 3 * 3 + 2 by omega) with e | e | e
    · rw [e] at hu ⊢
      rw [k0] at hu
      cases hu
      exact c0
    · rw [e, k1] at hu
      cases hu
      rw [e, ← Nat.add_assoc]
      exact c1
    · rw [e, k2] at hu
      cases hu
      rw [e, ← Nat.add_assoc]
      exact c2
theorem run_append_items {w : World} {base n : Nat} {v : Value} {cells : List Value} (hown : w.ownsRow base 137 3 v n cells) (hb : base ≤ w.heap.size) {oi : Option Addr} {ci : Nat} {xs : List It} (h : HoldsItems w oi xs) (hn : n < 2 ^ 30) (hx : xs.length < 2 ^ 30) (ty : TypeId) :
    ∃ v' w', (Builtin.append_ #[65, 65] ty #[v, .slice oi xs.length ci]).run Tryz.prog w = .ok v' w' ∧ w'.ownsRow base 137 3 v' (n + xs.length) (cells ++ itemCells xs) ∧ w.grownBy w' v.ownBlock := by
  obtain ⟨i0, hi, hz0, hz1, hz2⟩ := info_parts infoItem
  have ht := Tryz.underlying65
  cases oi with
  | none =>
    have hxe : xs = [] := by
      rcases h with h | ⟨b, off, h1, _⟩
      · exact h
      · cases h1
    subst hxe
    have key : ∀ (a : Option Addr) (k c : Nat), k ≤ c → (Builtin.append_ #[65, 65] ty #[.slice a k c, .slice none 0 ci]).run Tryz.prog w = .ok (.slice a k c) w := fun a k c hkc =>
      run_append_nothing (P := Tryz.prog) w _ _ ty 137 i0 ht hi a k c hkc _ (Src.ofNil w ht ci)
    refine ⟨v, w, ?_, by simpa [itemCells] using hown, ⟨rfl, rfl, rfl, Nat.le_refl _, fun _ _ _ => rfl⟩⟩
    rcases hown.2 with ⟨rfl, rfl⟩ | ⟨g, cap, cur, rfl, _, _, hnc, _⟩
    · exact key none 0 0 (Nat.le_refl _)
    · exact key _ _ _ hnc
  | some a =>
    have hsrc : ∀ j u, (itemCells xs)[j]? = some u → w.cell? (a.add j) = some u := by
      rcases items_src h with h1 | ⟨b, off, h1, h2⟩
      · intro j u hu
        rw [h1] at hu
        simp [itemCells] at hu
      · cases h1
        exact h2
    obtain ⟨v', w', hrun, k1, k2, -⟩ := run_append_own (P := Tryz.prog) w base 65 ty 137 i0 _ 3 32 ht hi hz0 hz1 hz2 rfl (by decide) v n cells hown a xs.length ci (itemCells xs) (by rw [itemCells_length, Nat.mul_comm]) hsrc (fun u hu => by
      unfold itemCells at hu
      obtain ⟨x, _, hx⟩ := List.mem_flatMap.1 hu
      simp only [List.mem_cons, List.not_mem_nil, or_false] at hx
      rcases hx with rfl | rfl | rfl <;> rfl) (by unfold maxLen; omega) (by omega) hb
    exact ⟨v', w', hrun, k1, k2⟩
theorem wpList_append_items {w : World} {ops : Array Oper} {rest : List Oper} {o : Oper} {a : Act} {Q : Exit → Act → World → Prop} (hgd : o.guard = none) (s x : Operand)
    (ho : o.op = .call { callee := .builtin .append, args := #[s, x], argTypes := #[65, 65] })
    {base n : Nat} {v : Value} {cells : List Value} (hs : a.eval s = v) (hown : w.ownsRow base 137 3 v n cells) (hb : base ≤ w.heap.size) {oi : Option Addr} {ci : Nat} {xs : List It} (hx : a.eval x = .slice oi xs.length ci) (h : HoldsItems w oi xs) (hn : n < 2 ^ 30) (hxn : xs.length < 2 ^ 30)
    (hK : ∀ v' w', w'.ownsRow base 137 3 v' (n + xs.length) (cells ++ itemCells xs) → w.grownBy w' v.ownBlock → wpList Tryz.prog ops Q rest (a.put o.dst v') w') : wpList Tryz.prog ops Q (o :: rest) a w := by
  refine wpList_plain hgd fun K hK' => ?_
  obtain ⟨v', w', hrun, r1, r2⟩ := run_append_items hown hb (ci := ci) h hn hxn o.type
  unfold Oper.wp
  simp [execOp, ho, resolve, invoke, builtin, hs, hx, hrun, Result.andThen]
  exact hK' _ _ (hK v' w' r1 r2)
theorem below_grown1 {w w' : World} {B : Nat} {row : Option Nat} (h : w.grownBy w' row) (hB : B ≤ w.heap.size) (hr : ∀ r, row = some r → B ≤ r) : Below B w w' := (Below.refl B w).grown h hB hr
theorem ownsRow_setFar {w : World} {base n size : Nat} {e : TypeId} {v : Value} {xs : List Value} (h : w.ownsRow base e size v n xs) {a : Addr} (ha : a.block < base) (u : Value) : (w.setCell a u).ownsRow base e size v n xs := by
  obtain ⟨h1, h2 | ⟨g, cap, cur, hv, hB, hh, r⟩⟩ := h
  · exact ⟨h1, .inl h2⟩
  · exact ⟨h1, .inr ⟨g, cap, cur, hv, hB, (Below.heap_setCell _ _ _ _ (by omega)).trans hh, r⟩⟩
set_option maxRecDepth 100000 in
set_option maxHeartbeats 1600000 in
theorem ownScope_any (s : Sc) (oi : Option Addr) (ci : Nat) (hn : s.items.length < 1048576) (w : World) (hc : HoldsItems w oi s.items) :
    Calls Tryz.prog 66 #[.agg #[.int .i64 s.parent, .slice oi s.items.length ci]] w fun e w' => ∃ o' c', e = .returned (.agg #[.int .i64 s.parent, .slice o' s.items.length c']) ∧ w'.ownsRow w.heap.size 137 3 (.slice o' s.items.length c') s.items.length (itemCells s.items) ∧ Below w.heap.size w w' := by
  obtain ⟨p, xs⟩ := s
  dsimp only at hn hc ⊢
  have hb0 : Below w.heap.size w (((w.alloc (.cells #[.int .i64 p, .slice oi xs.length ci] 67)).alloc (.cells #[.int .i64 0, .slice none 0 0] 67)).alloc (.cells #[] 137)) := (((Below.refl _ _).alloc (Nat.le_refl _) _).alloc (by simp) _).alloc (by simp; omega) _
  have R1 := ((Row.new w [.int .i64 p, .slice oi xs.length ci] 67).alloc (.cells #[.int .i64 0, .slice none 0 0] 67)).alloc (.cells #[] 137)
  have R2 := (Row.new (w.alloc (.cells #[.int .i64 p, .slice oi xs.length ci] 67)) [.int .i64 0, .slice none 0 0] 67).alloc (.cells #[] 137)
  rw [World.size_alloc] at R2
  have hown : (((w.alloc (.cells #[.int .i64 p, .slice oi xs.length ci] 67)).alloc (.cells #[.int .i64 0, .slice none 0 0] 67)).alloc (.cells #[] 137)).ownsRow (w.heap.size + 2) 137 3 (.slice (some ⟨w.heap.size + 1 + 1, 0, none⟩) 0 0) 0 [] := by
    have h0 := World.ownsRow_made (base := w.heap.size + 2) (e := 137) (size := 3) ((w.alloc (.cells #[.int .i64 p, .slice oi xs.length ci] 67)).alloc (.cells #[.int .i64 0, .slice none 0 0] 67)) #[] 0 (by simp) (by unfold maxLen; omega) rfl
    rw [World.size_alloc, World.size_alloc] at h0
    exact h0
  have x1 := R1.cell (i := 1) (by rfl)
  have HC := Lib.hid (hc.below hb0 (Nat.le_refl _))
  have HB := Lib.hid hb0
  have HO := Lib.hid hown
  have HR1 := Lib.hid R1
  have HR2 := Lib.hid R2
  clear hc hb0 hown R1 R2
  go_enter Tryz.func66, Tryz.ntmps66
  go_wp2_with (at_builtin; refine wpList_append_items rfl _ _ rfl rfl HO.out (by simp) rfl HC.out (by omega) (by omega) ?_)
  intro v1 w1 hown1 hg1
  obtain ⟨o', c', rfl, -⟩ := holdsItems_of_owns hown1
  have hb1 : Below (w.heap.size + 2) _ w1 := below_grown1 hg1 (by simp) (fun r e => by simp only [Value.ownBlock, Option.some.injEq] at e; omega)
  have R1 := HR1.out.below hb1 (by omega)
  have R2 := HR2.out.below hb1 (by omega)
  have HB1 := Lib.hid (HB.out.trans (hb1.mono (by omega)))
  have HS := Lib.hid ((R2.other (a := ⟨w.heap.size, 1, none⟩) (by simp) (.slice o' xs.length c')).set 0 (.int .i64 p) |>.set 1 (.slice o' xs.length c'))
  have a0 := R1.cell (i := 0) (v := .int .i64 p) (by rfl)
  have a1 := R1.cell (i := 1) (v := .slice oi xs.length ci) (by rfl)
  have f1 := R1.frozen 1
  have b0 := R2.cell (i := 0) (v := .int .i64 0) (by rfl)
  have b1 := R2.cell (i := 1) (v := .slice none 0 0) (by rfl)
  have g0 := R2.frozen 0
  have g1 := R2.frozen 1
  have HOW := Lib.hid hown1
  have hz : w.heap.size + 1 < w1.heap.size := R2.lt
  clear hown1 hg1 hb1 R1 R2 x1
  go_wp2
  have d0 := HS.out.cell (i := 0) (v := .int .i64 p) (by rfl)
  have d1 := HS.out.cell (i := 1) (v := .slice o' xs.length c') (by rfl)
  refine bodyPost_ret (v := .agg #[.int .i64 p, .slice o' xs.length c']) (by simp [results, Tryz.results66, go_sem, d0, d1]) rfl ⟨o', c', rfl, ?_, ?_⟩
  · exact (ownsRow_setFar (ownsRow_setFar (ownsRow_setFar HOW.out (by simp) _) (by simp) _) (by simp) _).mono (by omega)
  · exact ((HB1.out.setCell (Nat.le_refl _) _).setCell (by simp) _).setCell (by simp) _
/-- The empty slice of scopes. -/
theorem OwnGr.made (w : World) (B : Nat) (hB : B ≤ w.heap.size) : OwnGr (w.alloc (.cells #[] 67)) B (.slice (some ⟨w.heap.size, 0, none⟩) 0 0) [] [] where
  len := rfl
  row := (World.ownsRow_made (base := w.heap.size) (e := 67) (size := 2) w #[] 0 (by simp) (by unfold maxLen; omega) rfl).mono hB
  items := by simp
  apart := by simp
set_option maxRecDepth 100000 in
set_option maxHeartbeats 4000000 in
theorem ownList_any (ss : List Sc) (oa : Option Addr) (cap : Nat) (hn : ss.length ≤ 1048576) (hn2 : ∀ s ∈ ss, s.items.length < 1048576) (w : World) (hc : HoldsScopes w oa ss) :
    Calls Tryz.prog 40 #[.slice oa ss.length cap] w fun e w' => ∃ v hs, e = .returned v ∧ OwnGr w' w.heap.size v ss hs ∧ Below w.heap.size w w' := by
  have hM := OwnGr.made w w.heap.size (Nat.le_refl _)
  have HB0 := Lib.hid ((Below.refl w.heap.size w).alloc (Nat.le_refl _) (.cells #[] 67))
  have HM := Lib.hid hM
  have HC := Lib.hid hc
  have HN2 := Lib.hid hn2
  obtain ⟨i0, hi0, hz0, hz1, hz2⟩ := info_parts infoScope
  clear hc hn2 hM
  go_enter Tryz.func40, Tryz.ntmps40
  go_wp2
  go_loopw [3, 9] (fun v i wr => ∃ (k : Nat) (hs : List Value), i = .int .i64 k ∧ k ≤ ss.length ∧ Hid (OwnGr wr w.heap.size v (ss.take k) hs ∧ Below w.heap.size w wr)) (fun _ i _ => ss.length - (intOf i).toNat)
  case atStart => exact ⟨0, [], rfl, Nat.zero_le _, Lib.hid ⟨HM.out, HB0.out⟩⟩
  case round =>
    obtain ⟨k, hs, rfl, hk, hP⟩ := hrel
    by_cases hlt : k < ss.length
    · obtain ⟨s, hs'⟩ : ∃ s, ss[k]? = some s := ⟨_, List.getElem?_eq_getElem hlt⟩
      obtain ⟨b1, f1, rfl, hb1, hcell⟩ := HC.out.at (by omega)
      obtain ⟨oi, ci, x0, x1, hIt⟩ := hcell k s hs'
      have y0 := (hP.out.2.cell (p := ⟨b1, _, none⟩) hb1).trans x0
      have y1 := (hP.out.2.cell (p := ⟨b1, _, none⟩) hb1).trans x1
      have hbA := (Below.refl wr.heap.size wr).alloc (Nat.le_refl _) (.cells #[.int .i64 s.parent, .slice oi s.items.length ci] 67)
      have HIA := Lib.hid (hIt.below (hP.out.2.trans (hbA.mono hP.out.2.size)) (Nat.le_refl _))
      have HBA := Lib.hid (hP.out.2.trans (hbA.mono hP.out.2.size))
      have HGA := Lib.hid (hP.out.1.below hbA)
      have C := Lib.hid (ownScope_any s oi ci (HN2.out s (List.mem_of_getElem? hs')) _ HIA.out)
      have HTK : Hid (ss.take (k + 1) = ss.take k ++ [s]) := Lib.hid (by rw [List.take_add_one, hs']; rfl)
      have hkl : (ss.take k).length = k := by rw [List.length_take]; omega
      have HKL := Lib.hid hkl
      have hbz := hP.out.2.size
      clear hs' hcell x0 x1 hIt hbA hkl
      go_wp2_with fail
      refine C.out.mono ?_
      rintro e w2 ⟨o', c', rfl, hown2, hb2⟩
      have HB2 := Lib.hid (HBA.out.trans (hb2.mono HBA.out.size))
      have HG2 := Lib.hid (HGA.out.below hb2)
      have HU2 := Lib.hid hown2
      have hrow := HG2.out.row
      rw [HKL.out] at hrow
      have HROW := Lib.hid hrow
      have hbs2 := HB2.out.size
      have hz3 : w.heap.size ≤ (wr.alloc (.cells #[.int .i64 s.parent, .slice oi s.items.length ci] 67)).heap.size := HBA.out.size
      clear hown2 hb2 hrow y0 y1
      go_wp2_with (at_builtin; refine wpList_append_own _ rfl _ _ 26 rfl w.heap.size 67 i0 _ 2 32 Tryz.underlying26 hi0 hz0 hz1 hz2 rfl (by decide) _ _ _ rfl (HROW.out.alloc _) ⟨w2.heap.size, 0, none⟩ 1 1 [.int .i64 s.parent, .slice o' s.items.length c'] rfl rfl ?c1 ?c2 ?c3 ?c4 ?c5 ?_)
      case c1 => exact cells_new2 _ _ _ _
      case c2 => intro u hu; simp only [List.mem_cons, List.not_mem_nil, or_false] at hu; rcases hu with rfl | rfl <;> rfl
      case c3 => unfold maxLen; omega
      case c4 => omega
      case c5 => simp only [World.size_alloc]; omega
      intro v' w3 hown3 hgrow _
      have HG3 : Hid (OwnGr w3 w.heap.size v' (ss.take (k + 1)) (hs ++ [.slice o' s.items.length c'])) := Lib.hid (by
        rw [HTK.out]
        refine OwnGr.snoc (p := s.parent) (xs := s.items) HGA.out HG2.out HU2.out hz3 hgrow ?_
        rw [HKL.out]
        exact hown3)
      have HB3 := Lib.hid (HB2.out.trans (((Below.refl w.heap.size w2).alloc hbs2 (.cells #[.int .i64 s.parent, .slice o' s.items.length c'] 67)).trans (below_grown1 hgrow (by simp; omega) (fun r e => (HROW.out.lt r e).1))))
      clear hown3 hgrow
      go_wp2
      go_roundw
      case rel => exact ⟨k + 1, _, by go_num, by omega, Lib.hid ⟨HG3.out, HB3.out⟩⟩
      case measure => simp only [intOf]; omega
    · obtain rfl : k = ss.length := by omega
      have HG : Hid (OwnGr wr w.heap.size _ ss hs) := Lib.hid (by have := hP.out.1; rwa [List.take_length] at this)
      go_wp2
      go_ret
      exact ⟨_, hs, rfl, HG.out, hP.out.2⟩
end Go.Proofs.YtgehpaojbnpbcaaGreatDoor
namespace Go.Proofs.YtgehpaojbnpbcaaGreatDoor
open Go Go.RowKit Sg
theorem ownsRow_otherN {w : World} {B : Nat} {e : TypeId} {v : Value} {n T size : Nat} {xs : List Value} {t : TypeId} {vs : List Value} (h : w.ownsRow B e size v n xs) (hT : Row w T t vs) (ht : t ≠ e) (i : Nat) (u : Value) : (w.setCell ⟨T, i, none⟩ u).ownsRow B e size v n xs := by
  obtain ⟨hl, h2 | ⟨g, cap, cur, hv, hB, hh, hr⟩⟩ := h
  · exact ⟨hl, .inl h2⟩
  · refine ⟨hl, .inr ⟨g, cap, cur, hv, hB, ?_, hr⟩⟩
    rw [Below.heap_setCell _ _ _ _ (show g ≠ T from ?_)]
    · exact hh
    · rintro rfl
      unfold Row at hT
      rw [hT] at hh
      simp at hh
      exact ht hh.2
theorem OwnGr.other {w : World} {B T : Nat} {v : Value} {ss : List Sc} {hs : List Value} {t : TypeId} {vs : List Value} (h : OwnGr w B v ss hs) (hT : Row w T t vs) (h1 : t ≠ 67 ∨ v.ownBlock ≠ some T) (h2 : t ≠ 137) (i : Nat) (u : Value) : OwnGr (w.setCell ⟨T, i, none⟩ u) B v ss hs where
  len := h.len
  row := by
    rcases h1 with h1 | h1
    · exact ownsRow_otherN h.row hT h1 i u
    · obtain ⟨hl, h3 | ⟨g, cap, cur, hv, hB, hh, hr⟩⟩ := h.row
      · exact ⟨hl, .inl h3⟩
      · refine ⟨hl, .inr ⟨g, cap, cur, hv, hB, (Below.heap_setCell _ _ _ _ ?_).trans hh, hr⟩⟩
        rintro rfl
        exact h1 (by rw [hv]; rfl)
  items := fun k s z k1 k2 => ownsRow_otherN (h.items k s z k1 k2) hT h2 i u
  apart := h.apart
section
variable {w W0 wr w' : World} {B2 B4 B7 : Nat} {v u vp vq : Value} {ss : List Sc} {hs : List Value} {p : Int} {xs : List It} {ps qs : List (List UInt8)}
end
end Go.Proofs.YtgehpaojbnpbcaaGreatDoor
namespace Go.Proofs.YtgehpaojbnpbcaaGreatDoor
open Go Go.RowKit Sg
set_option maxRecDepth 100000 in
set_option maxHeartbeats 1600000 in
theorem ownGraph_any (ss : List Sc) (oa : Option Addr) (cap : Nat) (hn : ss.length ≤ 1048576) (hn2 : ∀ s ∈ ss, s.items.length < 1048576) (w : World) (hc : HoldsScopes w oa ss) :
    Calls Tryz.prog 22 #[.agg #[.slice oa ss.length cap]] w fun e w' => ∃ v hs, e = .returned (.agg #[v]) ∧ OwnGr w' w.heap.size v ss hs ∧ Below w.heap.size w w' := by
  have hb0 : Below w.heap.size w ((w.alloc (.cells #[.slice oa ss.length cap] 28)).alloc (.cells #[.slice none 0 0] 28)) := ((Below.refl _ _).alloc (Nat.le_refl _) _).alloc (by simp) _
  have R1 := Lib.hid ((Row.new w [.slice oa ss.length cap] 28).alloc (.cells #[.slice none 0 0] 28))
  have R2 : Hid (Row ((w.alloc (.cells #[.slice oa ss.length cap] 28)).alloc (.cells #[.slice none 0 0] 28)) (w.heap.size + 1) 28 [.slice none 0 0]) := Lib.hid (by
    have := Row.new (w.alloc (.cells #[.slice oa ss.length cap] 28)) [.slice none 0 0] 28
    rw [World.size_alloc] at this
    exact this)
  have C := Lib.hid (ownList_any ss oa cap hn hn2 _ (hc.below hb0 (Nat.le_refl _)))
  have HB0 := Lib.hid hb0
  have a1 := R1.out.cell (i := 0) (by rfl)
  clear hc hn hn2 hb0
  go_enter Tryz.func22, Tryz.ntmps22
  go_wp2_with fail
  refine C.out.mono ?_
  rintro e w1 ⟨v, hs, rfl, hg, hb1⟩
  obtain ⟨ov, cv, rfl, -⟩ := hg.holds
  have r1 := R1.out.below hb1 R1.out.lt
  have r2 := R2.out.below hb1 R2.out.lt
  have b1 := r1.cell (i := 0) (by rfl)
  have f1 := r1.frozen 0
  have b2 := r2.cell (i := 0) (by rfl)
  have f2 := r2.frozen 0
  have HG := Lib.hid hg
  have HB := Lib.hid (HB0.out.trans (hb1.mono HB0.out.size))
  have hz : w.heap.size + 1 < w1.heap.size := r2.lt
  have d2 := ((r2.other (a := ⟨w.heap.size, 0, none⟩) (by simp) (.slice ov ss.length cv)).set 0 (.slice ov ss.length cv)).cell (i := 0) (v := .slice ov ss.length cv) (by rfl)
  have HFIN : Hid (OwnGr ((w1.setCell ⟨w.heap.size, 0, none⟩ (.slice ov ss.length cv)).setCell ⟨w.heap.size + 1, 0, none⟩ (.slice ov ss.length cv)) w.heap.size (.slice ov ss.length cv) ss hs) := Lib.hid
    (((hg.lower HB0.out.size).other r1 (.inl (by decide)) (by decide) 0 _).other (r2.other (a := ⟨w.heap.size, 0, none⟩) (by simp) (.slice ov ss.length cv)) (.inl (by decide)) (by decide) 0 _)
  clear hg hb1 r1 r2 a1
  go_wp2
  refine bodyPost_ret (v := .agg #[.slice ov ss.length cv]) (by simp [results, Tryz.results22, go_sem, d2]) rfl ⟨_, hs, rfl, HFIN.out, ?_⟩
  exact (HB.out.setCell (Nat.le_refl _) _).setCell (by simp) _
theorem ownsRow_set {w : World} {B n size g cap : Nat} {e : TypeId} {xs : List Value} (h : w.ownsRow B e size (.slice (some ⟨g, 0, none⟩) n cap) n xs) {i : Nat} (_hi : i < xs.length) (z : Value) : (w.setCell ⟨g, i, none⟩ z).ownsRow B e size (.slice (some ⟨g, 0, none⟩) n cap) n (xs.set i z) := by
  obtain ⟨hl, h2 | ⟨g', cap', cur, hv, hB, hh, h3, h4, h5, h6⟩⟩ := h
  · exact absurd h2.1 (by simp)
  · simp only [Value.slice.injEq, Option.some.injEq, Addr.mk.injEq, true_and, and_true] at hv
    obtain ⟨rfl, rfl⟩ := hv
    refine ⟨by rw [List.length_set]; exact hl, .inr ⟨g, cap, cur.setIfInBounds i z, rfl, hB, ?_, h3, h4, by simpa using h5, ?_⟩⟩
    · simp [World.setCell, Array.getElem?_modify, hh]
    · rw [Array.toList_setIfInBounds, List.take_set, h6]
end Go.Proofs.YtgehpaojbnpbcaaGreatDoor
