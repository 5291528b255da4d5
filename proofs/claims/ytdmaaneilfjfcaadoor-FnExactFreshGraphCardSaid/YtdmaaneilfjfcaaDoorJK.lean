/-
  The walks of impl's SeenFrom and HiddenFrom. Conditions: the argument's memory holds the graph; the package-level errors hold errors. Sets of scopes as arrays of truths: impl's (*node).chainSet and scopeSet.and. Conditions: the tree lies in memory. The walks of HiddenFrom, the given one's and impl's. Conditions: the argument's memory holds the graph; the package-level errors hold errors.
-/
import Derived.Test.YtdmaaneilfjfcaaDoorPSet
import Derived.Test.YtdmaaneilfjfcaaDoorJE
import Derived.Test.YtdmaaneilfjfcaaDoorJB
import Derived.Deep.RegionWith
import Derived.Test.YtdmaaneilfjfcaaDoorJD
namespace Go.Proofs.YtdmaaneilfjfcaaDoor
open Go Go.RowKit Go.Maps
theorem name_bytes {a b : ByteArray} (h : (a.toList == b.toList) = true) : a = b := by
  rw [beq_iff_eq, ByteArray.toList_eq, ByteArray.toList_eq] at h
  exact ByteArray.ext (Array.ext' h)
theorem name_letter {nm : ByteArray} (h : nameB nm = true) : ∃ k, k < 26 ∧ nm = letterB k := by
  unfold nameB at h
  split at h
  · rename_i b hd
    simp only [inB, Bool.and_eq_true, decide_eq_true_eq] at h
    refine ⟨b.toNat - 97, by omega, ?_⟩
    apply ByteArray.ext
    apply Array.ext'
    rw [hd]
    show [b] = [UInt8.ofNat (97 + (b.toNat - 97))]
    rw [show 97 + (b.toNat - 97) = b.toNat by omega, UInt8.ofNat_toNat]
  · cases h
theorem own_decl {ss : List Sc} {s : Nat} {nm : ByteArray} {p : Int × Int} (h : p ∈ ownP ss s nm) : ∃ x, itemAtP ss p.1 p.2 = some x ∧ x.kind = 1 ∧ x.name = nm := by
  obtain ⟨c, j, x, hc, hx, ho, rfl⟩ := mem_ownP h
  unfold isOwn at ho
  simp only [Bool.and_eq_true] at ho
  exact ⟨x, by rw [itemAtP_nat hc]; exact hx, by simpa using ho.1, name_bytes ho.2⟩
theorem look_decl {ss : List Sc} {imps : Nat → List Nat} {nm : ByteArray} : ∀ {l : List Nat}, ∀ p ∈ (lookF ss imps nm l).places, ∃ x, itemAtP ss p.1 p.2 = some x ∧ x.kind = 1 ∧ x.name = nm
  | [], p, hp => by simp [lookF] at hp
  | m :: r, p, hp => by
    unfold lookF at hp
    split at hp
    · split at hp
      · exact look_decl p hp
      · have h : p ∈ fromP ss (imps m) nm := hp
        unfold fromP at h
        obtain ⟨k, _, hk⟩ := List.mem_flatMap.1 h
        exact own_decl hk
    · exact own_decl hp
theorem seenUp_iff (ss : List Sc) (s q : Nat) : ∀ n : Nat, seenUp ss s n q = true ↔ ∃ k, k < n ∧ inPl (lookP ss s (letterB k)).places q = true
  | 0 => by simp [seenUp]
  | n + 1 => by
    show (seenUp ss s n q || inPl (lookP ss s (letterB n)).places q) = true ↔ _
    rw [Bool.or_eq_true, seenUp_iff ss s q n]
    constructor
    · rintro (⟨k, hk, h⟩ | h)
      · exact ⟨k, by omega, h⟩
      · exact ⟨n, by omega, h⟩
    · rintro ⟨k, hk, h⟩
      by_cases e : k = n
      · exact .inr (e ▸ h)
      · exact .inl ⟨k, by omega, h⟩
theorem placed_small {ss : List Sc} (hv : Valid ss) {i j : Nat} {x : It} (hq : (i, j, x) ∈ placed 0 ss) : i < 6 ∧ j < 5 := by
  obtain ⟨c, hc, hx⟩ := placed_at hq
  dsimp only at hc hx
  have h1 := (List.getElem?_eq_some_iff.1 hc).1
  have h2 := (List.getElem?_eq_some_iff.1 hx).1
  have h3 := hv.count.2
  have h4 := hv.five c (List.mem_of_getElem? hc)
  omega
/-- The set tells of each item whether it is a declaration that is found by its name. -/
theorem seen_at {ss : List Sc} (hv : Valid ss) (s : Nat) {i j : Nat} {x : It} (hq : (i, j, x) ∈ placed 0 ss) : seenUp ss s 26 (i * 5 + j) = seesB ss s (i, j, x) := by
  have hsm := placed_small hv hq
  rw [Bool.eq_iff_iff, seenUp_iff]
  unfold seesB foundB
  simp only [Bool.and_eq_true, beq_iff_eq, decide_eq_true_eq]
  constructor
  · rintro ⟨k, hk, h⟩
    unfold inPl at h
    obtain ⟨p, hp, he⟩ := List.any_eq_true.1 h
    rw [beq_iff_eq] at he
    obtain ⟨i', j', rfl, hi', hj'⟩ := small_places hv look_isPlace p hp
    dsimp only at he
    obtain rfl : i' = i := by omega
    obtain rfl : j' = j := by omega
    obtain ⟨y, hy, hk1, hn⟩ := look_decl _ hp
    have h2 := placed_item hq
    dsimp only at h2 hy
    rw [h2] at hy
    cases hy
    refine ⟨hk1, ?_⟩
    rw [hn]
    exact hp
  · rintro ⟨hk1, hf⟩
    have h1 := item_of hv hq
    unfold itemB at h1
    simp only [Bool.and_eq_true] at h1
    obtain ⟨k, hk, hn⟩ := name_letter h1.1.1
    refine ⟨k, hk, ?_⟩
    unfold inPl
    refine List.any_eq_true.2 ⟨_, by rw [← hn]; exact hf, ?_⟩
    unfold plOf
    simp
end Go.Proofs.YtdmaaneilfjfcaaDoor
namespace Go.Proofs.YtdmaaneilfjfcaaDoor
open Go Go.RowKit Go.Maps
attribute [local go_sem] Oper.semAt_some
def elF {ss : List Sc} (f : Nat × Nat × It → Bool) (pre : List (El ss)) : List (Int × Int) := filtL f (pre.map Subtype.val)
end Go.Proofs.YtdmaaneilfjfcaaDoor
namespace Go.Proofs.YtdmaaneilfjfcaaDoor
open Go Go.RowKit Go.Maps
attribute [local go_sem] Oper.semAt_some
/-- The cells of a set of scopes. -/
def setV (p : Nat → Bool) : List Value := [.bool (p 0), .bool (p 1), .bool (p 2), .bool (p 3), .bool (p 4), .bool (p 5)]
theorem setV_set (l : List Nat) (i : Nat) (hi : i < 6) : (setV fun j => decide (j ∈ l)).set i (.bool true) = setV fun j => decide (j ∈ l ++ [i]) := by
  rcases (show i = 0 ∨ i = 1 ∨ i = 2 ∨ i = 3 ∨ i = 4 ∨ i = 5 by omega) with rfl | rfl | rfl | rfl | rfl | rfl <;> simp [setV]
theorem setV_get (p : Nat → Bool) (i : Nat) (hi : i < 6) : (setV p)[i]? = some (.bool (p i)) := by
  rcases (show i = 0 ∨ i = 1 ∨ i = 2 ∨ i = 3 ∨ i = 4 ∨ i = 5 by omega) with rfl | rfl | rfl | rfl | rfl | rfl <;> simp [setV]
theorem Row.from_set {W : World} {g : Nat} {t : TypeId} {vs : List Value} (h : Row W g t vs) (B i : Nat) (x : Value) : KeepsFrom B W (W.setCell ⟨g, i, none⟩ x) := by
  have h1 := h.set i x
  have hsz : (W.setCell ⟨g, i, none⟩ x).heap.size = W.heap.size := by simp
  refine ⟨Nat.le_of_eq hsz.symm, fun k o hB hk ho => ?_⟩
  by_cases he : k = g
  · subst he
    unfold Row at h
    rw [h] at hk
    cases hk
    cases ho
  · rw [Below.heap_setCell _ _ _ _ (by simpa using he)]; exact hk
theorem Row.putObj {W : World} {g : Nat} {t : TypeId} {vs : List Value} (h : Row W g t vs) {l : Nat} {o : Obj} (o' : Obj) (hl : W.heap[l]? = some o) (ho : o.isCells = false) : Row (W.putObj l o') g t vs :=
  (CellsKept.putObj (n := W.heap.size) W l o o' hl ho).block g _ _ _ h.lt h
theorem heap_store6 (W : World) (g : Nat) (v0 v1 v2 v3 v4 v5 : Value) {D : Nat} {o : Obj} (hD : D ≠ g) (h : W.heap[D]? = some o) :
    ((((((W.setCell ⟨g, 0, none⟩ v0).setCell ⟨g, 1, none⟩ v1).setCell ⟨g, 2, none⟩ v2).setCell ⟨g, 3, none⟩ v3).setCell ⟨g, 4, none⟩ v4).setCell ⟨g, 5, none⟩ v5).heap[D]? = some o := by
  rw [Below.heap_setCell _ _ _ _ hD, Below.heap_setCell _ _ _ _ hD, Below.heap_setCell _ _ _ _ hD, Below.heap_setCell _ _ _ _ hD, Below.heap_setCell _ _ _ _ hD, Below.heap_setCell _ _ _ _ hD]
  exact h
theorem row_store6 {W : World} {g : Nat} {t : TypeId} {u0 u1 u2 u3 u4 u5 : Value} (v0 v1 v2 v3 v4 v5 : Value) (h : Row W g t [u0, u1, u2, u3, u4, u5]) :
    Row ((((((W.setCell ⟨g, 0, none⟩ v0).setCell ⟨g, 1, none⟩ v1).setCell ⟨g, 2, none⟩ v2).setCell ⟨g, 3, none⟩ v3).setCell ⟨g, 4, none⟩ v4).setCell ⟨g, 5, none⟩ v5) g t [v0, v1, v2, v3, v4, v5] :=
  (((((h.set 0 v0).set 1 v1).set 2 v2).set 3 v3).set 4 v4).set 5 v5
theorem below_store6 {N : Nat} {w W : World} {g : Nat} (v0 v1 v2 v3 v4 v5 : Value) (hg : N ≤ g) (h : Below N w W) :
    Below N w ((((((W.setCell ⟨g, 0, none⟩ v0).setCell ⟨g, 1, none⟩ v1).setCell ⟨g, 2, none⟩ v2).setCell ⟨g, 3, none⟩ v3).setCell ⟨g, 4, none⟩ v4).setCell ⟨g, 5, none⟩ v5) :=
  (((((h.setCell hg v0).setCell hg v1).setCell hg v2).setCell hg v3).setCell hg v4).setCell hg v5
theorem setV_put (f : Nat → Bool) (k : Nat) (b : Bool) (hk : k < 6) : (setV f).set k (.bool b) = setV fun i => if i = k then b else f i := by
  rcases (show k = 0 ∨ k = 1 ∨ k = 2 ∨ k = 3 ∨ k = 4 ∨ k = 5 by omega) with rfl | rfl | rfl | rfl | rfl | rfl <;> simp [setV]
theorem setV_step (p q : Nat → Bool) (k : Nat) (b : Bool) (hk : k < 6) (hb : b = (p k && q k)) : (setV fun i => if i < k then p i && q i else p i).set k (.bool b) = setV fun i => if i < k + 1 then p i && q i else p i := by
  rw [setV_put _ _ _ hk]
  congr 1
  funext i
  by_cases h : i = k
  · subst h; simp [hb]
  · rw [if_neg h]
    by_cases h2 : i < k
    · rw [if_pos h2, if_pos (by omega)]
    · rw [if_neg h2, if_neg (by omega)]
end Go.Proofs.YtdmaaneilfjfcaaDoor
namespace Go.Proofs.YtdmaaneilfjfcaaDoor
open Go Go.RowKit
theorem placed_weightH : ∀ (i : Nat) (ss : List Sc), (placed i ss).length ≤ wScopes ss
  | _, [] => by simp [placed]
  | i, s :: r => by
    have ih := placed_weightH (i + 1) r
    have h1 := wItems_eq s.items
    simp only [placed, List.length_append, List.length_map, List.length_zipIdx, wScopes]
    omega
set_option maxRecDepth 100000 in
set_option maxHeartbeats 1600000 in
theorem l1PlacesW_any (ss : List Sc) (hn6 : ss.length ≤ 1048576) (hm5 : ∀ s ∈ ss, s.items.length ≤ 1048576) (hpw : (placed 0 ss).length ≤ 1048576) (oa : Option Addr) (cap : Nat) (kind : Int) (w : World) (hc : HoldsScopes w oa ss) :
    Calls Tryd.prog 38 #[.agg #[.slice oa ss.length cap], .int .i64 kind] w (PlsGot (plsP ss kind) w) := by
  have hb0 := ((Below.refl w.heap.size w).alloc (Nat.le_refl _) (.cells #[.slice oa ss.length cap] 25)).alloc (by simp) (.cells #[] 35)
  have hR0 := (Row.new w [.slice oa ss.length cap] 25).alloc (.cells #[] 35)
  have hown0 : ((w.alloc (.cells #[.slice oa ss.length cap] 25)).alloc (.cells #[] 35)).ownsRow w.heap.size 35 2 (.slice (some ⟨w.heap.size + 1, 0, none⟩) 0 0) 0 [] := by
    have h0 := World.ownsRow_made (base := w.heap.size) (e := 35) (size := 2) (w.alloc (.cells #[.slice oa ss.length cap] 25)) #[] 0 (by simp) (by unfold maxLen; omega) rfl
    rw [World.size_alloc] at h0
    exact h0
  have HP0 : Hid (PlsAt w ((w.alloc (.cells #[.slice oa ss.length cap] 25)).alloc (.cells #[] 35)) oa cap ss.length (.slice (some ⟨w.heap.size + 1, 0, none⟩) 0 0) []) := Lib.hid ⟨hR0, hown0, hb0⟩
  have HC := Lib.hid hc
  have HM := Lib.hid hm5
  have g00 := hR0.cell (i := 0) (by rfl)
  clear hc hm5 hb0 hR0 hown0
  go_enter Tryd.func38, Tryd.ntmps38
  go_wp2
  go_loopw [5, 14] (fun v i wr => ∃ k : Nat, i = .int .i64 k ∧ k ≤ ss.length ∧ Hid (PlsAt w wr oa cap ss.length v (plsOf kind (uptoP ss k 0)))) (fun _ i _ => ss.length - (intOf i).toNat)
  case atStart => exact ⟨0, rfl, Nat.zero_le _, Lib.hid (by rw [uptoP_start]; exact HP0.out)⟩
  case round =>
    obtain ⟨k, rfl, hk, hP⟩ := hrel
    by_cases hlt : k < ss.length
    · obtain ⟨s, hs⟩ : ∃ s, ss[k]? = some s := ⟨_, List.getElem?_eq_getElem hlt⟩
      obtain ⟨bb, off, rfl, hbb, hcell⟩ := HC.out.at (by omega)
      obtain ⟨oi, ci, a0, a1, hci⟩ := hcell k s hs
      have hil := HM.out s (List.mem_of_getElem? hs)
      have b0 := (hP.out.below.cell (p := ⟨bb, off + k * 2, none⟩) hbb).trans a0
      have b1 := (hP.out.below.cell (p := ⟨bb, off + k * 2 + 1, none⟩) hbb).trans a1
      have HS := Lib.hid hs
      have HI := Lib.hid hci
      have hbx := (Below.refl wr.heap.size wr).alloc (Nat.le_refl _) (.cells #[.int .i64 s.parent, .slice oi s.items.length ci] 80)
      have HP1 := Lib.hid (hP.out.step hbx)
      have hwr := hP.out.below.size
      clear hs hcell hci a0 a1 hbx
      go_wp2
      go_loopw [5, 22] (fun v i wr => ∃ j : Nat, i = .int .i64 j ∧ j ≤ s.items.length ∧ Hid (PlsAt w wr (some ⟨bb, off, none⟩) cap ss.length v (plsOf kind (uptoP ss k j)))) (fun _ i _ => s.items.length - (intOf i).toNat)
      case atStart => exact ⟨0, rfl, Nat.zero_le _, HP1⟩
      case round =>
        obtain ⟨j, rfl, hj, hP2⟩ := hrel
        by_cases hlt2 : j < s.items.length
        · obtain ⟨x, hx⟩ : ∃ x, s.items[j]? = some x := ⟨_, List.getElem?_eq_getElem hlt2⟩
          obtain ⟨b2, o2, rfl, hb2, hcell2⟩ := HI.out.at (by omega)
          obtain ⟨x0, x1, x2⟩ := hcell2 j x hx
          have y0 := (hP2.out.below.cell (p := ⟨b2, o2 + j * 3, none⟩) hb2).trans x0
          have y1 := (hP2.out.below.cell (p := ⟨b2, o2 + j * 3 + 1, none⟩) hb2).trans x1
          have y2 := (hP2.out.below.cell (p := ⟨b2, o2 + j * 3 + 2, none⟩) hb2).trans x2
          have hbx := (Below.refl wr.heap.size wr).alloc (Nat.le_refl _) (.cells #[.int .i64 x.kind, .string x.name, .int .i64 x.scope] 37)
          have HP3 := Lib.hid (hP2.out.step hbx)
          have hpl := Nat.le_trans (plsOf_length kind (uptoP ss k j)) (Nat.le_trans (uptoP_prefix (j := j) HS.out).length_le hpw)
          have HST := Lib.hid (plsOf_snoc kind (uptoP ss k j) (k, j, x))
          have HNX := Lib.hid (uptoP_next HS.out hx)
          clear hx hcell2 x0 x1 x2 hbx
          by_cases he : x.kind = kind
          · have hq : (x.kind == kind) = true := by simpa using he
            have HE : Hid (plsOf kind (uptoP ss k (j + 1)) = plsOf kind (uptoP ss k j) ++ [((k : Int), (j : Int))]) := Lib.hid (by rw [HNX.out, HST.out, if_pos he])
            generalize hpe : plsOf kind (uptoP ss k j) = pre at hpl
            rw [hpe] at HP3 HE
            have hrow3 := HP3.out.row
            obtain ⟨i0, hi0, hz0, hz1, hz2⟩ := info_parts infoPl
            have hbs3 := HP3.out.below.size
            have hbs2 := hP2.out.below.size
            clear hpe he
            go_wp2_with (at_builtin; refine wpList_append_own _ rfl _ _ 31 rfl w.heap.size 35 i0 (.agg #[.int .i64 0, .int .i64 0]) 2 16 Tryd.underlying31 hi0 hz0 hz1 hz2 rfl (by decide) _ _ _ rfl (hrow3.alloc _) ⟨wr.heap.size + 1, 0, none⟩ 1 1 [.int .i64 (k : Int), .int .i64 (j : Int)] rfl rfl ?c1 ?c2 ?c3 ?c4 ?c5 ?_)
            all_goals try (case c1 => exact cells_new2 _ _ _ _)
            all_goals try (case c2 => first | (exact ⟨rfl, rfl⟩) | (intro u hu; simp only [List.mem_cons, List.mem_nil_iff, or_false] at hu; rcases hu with rfl | rfl <;> rfl))
            all_goals try (case c3 => unfold maxLen; omega)
            all_goals try (case c4 => omega)
            all_goals try (case c5 => first | omega | (simp only [World.size_alloc]; omega) | (simp; omega))
            intro v' w' hown' hgrow _
            have HP4 : Hid (PlsAt w w' (some ⟨bb, off, none⟩) cap ss.length v' (plsOf kind (uptoP ss k (j + 1)))) := Lib.hid {
              box := (HP3.out.box.alloc (.cells #[.int .i64 (k : Int), .int .i64 (j : Int)] 35)).grown hgrow (ownsRow_ne2 HP3.out.box (by decide) HP3.out.row)
              row := by rw [HE.out, List.length_append, placeCells_snoc]; exact hown'
              below := HP3.out.below.trans (below_append2 HP3.out.row hgrow (Nat.le_refl w.heap.size) hbs3) }
            clear hown' hgrow hrow3
            go_wp2
            go_roundw
            case rel => exact ⟨j + 1, by go_num, by omega, HP4⟩
            case measure => simp only [intOf]; omega
          · have hq : (x.kind == kind) = false := by simpa using he
            have HE : Hid (plsOf kind (uptoP ss k (j + 1)) = plsOf kind (uptoP ss k j)) := Lib.hid (by rw [HNX.out, HST.out, if_neg he, List.append_nil])
            clear he
            go_wp2
            go_roundw
            case rel => exact ⟨j + 1, by go_num, by omega, by rw [HE.out]; exact HP3⟩
            case measure => simp only [intOf]; omega
        · obtain rfl : j = s.items.length := by omega
          have HP2 : Hid (PlsAt w wr (some ⟨bb, off, none⟩) cap ss.length _ (plsOf kind (uptoP ss (k + 1) 0))) := Lib.hid (by have := hP2.out; rw [uptoP_scope HS.out] at this; exact this)
          go_wp2
          go_roundw
          case rel => exact ⟨k + 1, by go_num, by omega, HP2⟩
          case measure => simp only [intOf]; omega
    · obtain rfl : k = ss.length := by omega
      have HE := Lib.hid (uptoP_all ss)
      go_wp2
      go_ret
      exact ⟨_, rfl, by have := hP.out.row; rw [HE.out] at this; exact this, hP.out.below⟩

/-- Numbers that lie apart from a row of one's own. -/
structure AsideI (W : World) (v : Value) (ol : Option Addr) (l : List Int) : Prop where
  args : HoldsInts W ol l
  ne : ∀ g, v.ownBlock = some g → ∀ b off, ol = some ⟨b, off, none⟩ → g ≠ b
  lt : ∀ b off, ol = some ⟨b, off, none⟩ → b < W.heap.size
theorem AsideI.below {W W' : World} {v : Value} {ol : Option Addr} {l : List Int} (h : AsideI W v ol l) (hb : Below W.heap.size W W') : AsideI W' v ol l :=
  ⟨h.args.below hb, h.ne, fun b off e => Nat.lt_of_lt_of_le (h.lt b off e) hb.size⟩
theorem HoldsInts.grown {W W' : World} {oa : Option Addr} {l : List Int} {row : Option Nat} (h : HoldsInts W oa l) (hg : W.grownBy W' row) (hne : ∀ g, row = some g → ∀ b off, oa = some ⟨b, off, none⟩ → g ≠ b) : HoldsInts W' oa l := by
  rcases h with h | ⟨b, off, rfl, hlt, hp⟩
  · exact .inl h
  · have hbk := hg.block b hlt (fun e => hne b e.symm b off rfl rfl)
    exact .inr ⟨b, off, rfl, Nat.lt_of_lt_of_le hlt hg.size, fun i p hi => (World.cell?_of_block (a := ⟨b, off + i, none⟩) hbk).trans (hp i p hi)⟩
theorem AsideI.grown {W W' : World} {v v' : Value} {ol : Option Addr} {l : List Int} {x y : Int} (h : AsideI W v ol l) (hg : (W.alloc (.cells #[.int .i64 x, .int .i64 y] 35)).grownBy W' v.ownBlock) (hw : v'.ownBlock = v.ownBlock ∨ v'.ownBlock = some (W.heap.size + 1)) : AsideI W' v' ol l := by
  have h1 := h.below ((Below.refl _ _).alloc (Nat.le_refl _) (.cells #[.int .i64 x, .int .i64 y] 35))
  refine ⟨h1.args.grown hg h1.ne, fun g hgo b off e => ?_, fun b off e => Nat.lt_of_lt_of_le (h1.lt b off e) hg.size⟩
  rcases hw with hw | hw
  · exact h.ne g (hw ▸ hgo) b off e
  · have := h.lt b off e
    rw [hw] at hgo
    simp only [Option.some.injEq] at hgo
    omega
end Go.Proofs.YtdmaaneilfjfcaaDoor
namespace Go.Proofs.YtdmaaneilfjfcaaDoor
open Go Go.RowKit Go.Maps
attribute [local go_sem] Oper.semAt_some
theorem setV_one (f : Nat → Bool) : (setV f).toArray.all (·.oneCell') = true := by
  have h : ∀ v ∈ setV f, v.oneCell' = true := by
    intro v hv
    simp only [setV, List.mem_cons, List.not_mem_nil, or_false] at hv
    rcases hv with rfl | rfl | rfl | rfl | rfl | rfl <;> rfl
  rw [Array.all_eq_true]
  intro i hi
  have h1 := h _ (List.getElem_mem (l := setV f) (n := i) (by simpa using hi))
  simpa using h1
end Go.Proofs.YtdmaaneilfjfcaaDoor
