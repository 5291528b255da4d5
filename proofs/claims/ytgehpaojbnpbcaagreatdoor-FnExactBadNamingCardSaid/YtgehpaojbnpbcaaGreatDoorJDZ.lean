/-
  The walks of the declarations of a name in a scope: the given l3Asked, l3Own and OwnOf; impl's (*node).own, lookupIn, lookupOf and OwnOf. Conditions: the argument's memory holds the graph; the package-level errors hold errors. The module of a scope: what a tree's map of modules says of it, and the first declaration of a graph with that scope. Plain facts. Looking up names, as plain data: what a scope imports, what a name finds from a scope, what an import means and brings in. Plain facts. The walks of the given l2In, WithinOf and CommonScope. Condition: the argument's memory holds the graph. A lookup in memory, its map of targets told by the places that it holds; what keeps it. Plain facts, and the walks of slices.Index and slices.Contains at numbers. What items mean and their states, as plain data; the meanings in memory: a map told by the slices that it holds. Plain facts. A graph whose items have other names: where its items stand, and that it is valid where the names are. Plain facts. A graph of the call's own when an item of it gets another name where it lies. Plain facts. What is visible from a scope, as plain data: the letters for which so many declarations are found, and what is hidden where a declaration stands. Plain facts. The walks of the given l3FromBy, l3WayBy and l3MeantBy. Conditions: the argument's memory holds the graph, and the table what its scopes import. The walks of ModuleOf, the given one and impl's. Conditions: the argument's memory holds the graph; the package-level errors hold errors. The walks of the given l3MeantBy and l3Table. Conditions: the argument's memory holds the graph, and the table what its scopes import. The walk of the given l3Table. Condition: the argument's memory holds the graph. The walks of the given l3Imported, l3From, l3Way, l3LookUp, ImportedScopes, ImportedOf and LookUp. Condition: the argument's memory holds the graph.
-/
import Derived.Test.YtgehpaojbnpbcaaGreatDoorJAZ
import Derived.Test.YtgehpaojbnpbcaaGreatDoorJBZ
import Derived.Maps.Ext
import Derived.Test.YtgehpaojbnpbcaaGreatDoorJCZ
import Derived.Laws.RangeString
import Derived.Laws.Runes
import Derived.Laws.OwnMore
import Derived.Deep.RegionHeld3
namespace Go.Proofs.YtgehpaojbnpbcaaGreatDoor
open Go Go.RowKit Go.Maps
def isOwn (nm : ByteArray) (x : It) : Bool := x.kind == 1 && (x.name.toList == nm.toList)
/-- The places of the declarations of a name among the first k items of scope s. -/
def ownUp (xs : List It) (s : Nat) (nm : ByteArray) : Nat → List (Int × Int)
  | 0 => []
  | k + 1 => ownUp xs s nm k ++ match xs[k]? with
    | some x => if isOwn nm x = true then [((s : Int), (k : Int))] else []
    | none => []
theorem ownUp_snoc {xs : List It} {s k : Nat} {nm : ByteArray} {x : It} (h : xs[k]? = some x) : ownUp xs s nm (k + 1) = ownUp xs s nm k ++ if isOwn nm x = true then [((s : Int), (k : Int))] else [] := by
  show ownUp xs s nm k ++ _ = _
  rw [h]
theorem ownUp_length (xs : List It) (s : Nat) (nm : ByteArray) : ∀ k : Nat, (ownUp xs s nm k).length ≤ k
  | 0 => by simp [ownUp]
  | k + 1 => by
    have h1 := ownUp_length xs s nm k
    have : (match xs[k]? with | some x => if isOwn nm x = true then [((s : Int), (k : Int))] else [] | none => []).length ≤ 1 := by
      split
      · split <;> simp
      · simp
    show (ownUp xs s nm k ++ _).length ≤ k + 1
    rw [List.length_append]
    omega
def itemsP (ss : List Sc) (s : Nat) : List It := (ss[s]?.map Sc.items).getD []
theorem itemsP_of {ss : List Sc} {s : Nat} {c : Sc} (h : ss[s]? = some c) : itemsP ss s = c.items := by unfold itemsP; rw [h]; rfl
/-- The places of the declarations of a name in a scope. -/
def ownP (ss : List Sc) (s : Nat) (nm : ByteArray) : List (Int × Int) := ownUp (itemsP ss s) s nm (itemsP ss s).length
theorem ownP_length {ss : List Sc} (hv : Valid ss) (s : Nat) (nm : ByteArray) : (ownP ss s nm).length ≤ 5 := by
  have h1 := ownUp_length (itemsP ss s) s nm (itemsP ss s).length
  have h2 : (itemsP ss s).length ≤ 5 := by
    unfold itemsP
    cases h : ss[s]? with
    | none => simp
    | some c => simpa using scope_items (hv.scopes s c h)
  unfold ownP
  omega
set_option maxRecDepth 100000 in
set_option maxHeartbeats 1600000 in
theorem specL3Own_any (ss : List Sc) (hv : Valid ss) (oa : Option Addr) (cap : Nat) (s : Nat) (hs : s < ss.length) (nm : ByteArray) (w : World) (hc : HoldsScopes w oa ss) :
    Calls Tryz.prog 126 #[.agg #[.slice oa ss.length cap], .int .i64 s, .string nm] w (PlsGot (ownP ss s nm) w) := by
  obtain ⟨c, hsc⟩ : ∃ c, ss[s]? = some c := ⟨_, List.getElem?_eq_getElem hs⟩
  have hil := scope_items (hv.scopes s c hsc)
  have hn6 := hv.count.2
  obtain ⟨bb, off, rfl, hbb, hcell⟩ := hc.at (by omega)
  obtain ⟨oi, ci, a0, a1, hci⟩ := hcell s c hsc
  have hb0 := ((Below.refl w.heap.size w).alloc (Nat.le_refl _) (.cells #[.slice (some ⟨bb, off, none⟩) ss.length cap] 28)).alloc (by simp) (.cells #[] 59)
  have hR0 := (Row.new w [.slice (some ⟨bb, off, none⟩) ss.length cap] 28).alloc (.cells #[] 59)
  have hown0 : ((w.alloc (.cells #[.slice (some ⟨bb, off, none⟩) ss.length cap] 28)).alloc (.cells #[] 59)).ownsRow w.heap.size 59 2 (.slice (some ⟨w.heap.size + 1, 0, none⟩) 0 0) 0 [] := by
    have h0 := World.ownsRow_made (base := w.heap.size) (e := 59) (size := 2) (w.alloc (.cells #[.slice (some ⟨bb, off, none⟩) ss.length cap] 28)) #[] 0 (by simp) (by unfold maxLen; omega) rfl
    rw [World.size_alloc] at h0
    exact h0
  have HP0 : Hid (PlsAt w ((w.alloc (.cells #[.slice (some ⟨bb, off, none⟩) ss.length cap] 28)).alloc (.cells #[] 59)) (some ⟨bb, off, none⟩) cap ss.length (.slice (some ⟨w.heap.size + 1, 0, none⟩) 0 0) []) := Lib.hid ⟨hR0, hown0, hb0⟩
  have HI := Lib.hid hci
  have HIE := Lib.hid (itemsP_of hsc)
  have g00 := hR0.cell (i := 0) (by rfl)
  have b1 := (hb0.cell (p := ⟨bb, off + s * 2 + 1, none⟩) hbb).trans a1
  clear hv hc hb0 hR0 hown0 hcell hci a0 a1 hsc
  go_enter Tryz.func126, Tryz.ntmps126
  go_wp2
  go_loopw [7, 18] (fun v i wr => ∃ k : Nat, i = .int .i64 k ∧ k ≤ c.items.length ∧ Hid (PlsAt w wr (some ⟨bb, off, none⟩) cap ss.length v (ownUp c.items s nm k))) (fun _ i _ => c.items.length - (intOf i).toNat)
  case atStart => exact ⟨0, rfl, Nat.zero_le _, HP0⟩
  case round =>
    obtain ⟨k, rfl, hk, hP2⟩ := hrel
    by_cases hlt2 : k < c.items.length
    · obtain ⟨x, hx⟩ : ∃ x, c.items[k]? = some x := ⟨_, List.getElem?_eq_getElem hlt2⟩
      obtain ⟨b2, o2, rfl, hb2, hcell2⟩ := HI.out.at (by omega)
      obtain ⟨x0, x1, x2⟩ := hcell2 k x hx
      have y0 := (hP2.out.below.cell (p := ⟨b2, o2 + k * 3, none⟩) hb2).trans x0
      have y1 := (hP2.out.below.cell (p := ⟨b2, o2 + k * 3 + 1, none⟩) hb2).trans x1
      have y2 := (hP2.out.below.cell (p := ⟨b2, o2 + k * 3 + 2, none⟩) hb2).trans x2
      have hbx := (Below.refl wr.heap.size wr).alloc (Nat.le_refl _) (.cells #[.int .i64 x.kind, .string x.name, .int .i64 x.scope] 137)
      have HP3 := Lib.hid (hP2.out.step hbx)
      have hpl := ownUp_length c.items s nm k
      have HST := Lib.hid (ownUp_snoc (s := s) (nm := nm) hx)
      have hbs2 := hP2.out.below.size
      clear hx hcell2 x0 x1 x2 hbx
      cases hq1 : (x.kind == 1) with
      | false =>
        have HE : Hid (ownUp c.items s nm (k + 1) = ownUp c.items s nm k) := Lib.hid (by rw [HST.out]; simp [isOwn, hq1])
        go_wp2
        go_roundw
        case rel => exact ⟨k + 1, by go_num, by omega, by rw [HE.out]; exact HP3⟩
        case measure => simp only [intOf]; omega
      | true =>
        cases hq2 : (x.name.toList == nm.toList) with
        | false =>
          have HE : Hid (ownUp c.items s nm (k + 1) = ownUp c.items s nm k) := Lib.hid (by rw [HST.out]; simp [isOwn, hq2])
          go_wp2
          go_roundw
          case rel => exact ⟨k + 1, by go_num, by omega, by rw [HE.out]; exact HP3⟩
          case measure => simp only [intOf]; omega
        | true =>
          have HE : Hid (ownUp c.items s nm (k + 1) = ownUp c.items s nm k ++ [((s : Int), (k : Int))]) := Lib.hid (by rw [HST.out]; simp [isOwn, hq1, hq2])
          generalize hpe : ownUp c.items s nm k = pre at hpl
          rw [hpe] at HP3 HE
          have hrow3 := HP3.out.row
          obtain ⟨i0, hi0, hz0, hz1, hz2⟩ := info_parts infoPl
          have hbs3 := HP3.out.below.size
          clear hpe
          go_wp2_with (at_builtin; refine wpList_append_own _ rfl _ _ 36 rfl w.heap.size 59 i0 (.agg #[.int .i64 0, .int .i64 0]) 2 16 Tryz.underlying36 hi0 hz0 hz1 hz2 rfl (by decide) _ _ _ rfl (hrow3.alloc _) ⟨wr.heap.size + 1, 0, none⟩ 1 1 [.int .i64 (s : Int), .int .i64 (k : Int)] rfl rfl ?c1 ?c2 ?c3 ?c4 ?c5 ?_)
          all_goals try (case c1 => first | exact cells_new2 _ _ _ _ | (intro j u hu; have h5 := cells_new2 (wr.alloc (.cells #[.int .i64 x.kind, .string x.name, .int .i64 x.scope] 137)) _ _ 59 j u hu; rw [World.size_alloc] at h5; exact h5))
          all_goals try (case c2 => first | (exact ⟨rfl, rfl⟩) | (intro u hu; simp only [List.mem_cons, List.mem_nil_iff, or_false] at hu; rcases hu with rfl | rfl <;> rfl))
          all_goals try (case c3 => unfold maxLen; omega)
          all_goals try (case c4 => omega)
          all_goals try (case c5 => first | omega | (simp only [World.size_alloc]; omega) | (simp; omega))
          intro v' w' hown' hgrow _
          have HP4 : Hid (PlsAt w w' (some ⟨bb, off, none⟩) cap ss.length v' (ownUp c.items s nm (k + 1))) := Lib.hid {
            box := (HP3.out.box.alloc (.cells #[.int .i64 (s : Int), .int .i64 (k : Int)] 59)).grown hgrow (ownsRow_ne2 HP3.out.box (by decide) HP3.out.row)
            row := by rw [HE.out, List.length_append, placeCells_snoc]; exact hown'
            below := HP3.out.below.trans (below_append2 HP3.out.row hgrow (Nat.le_refl w.heap.size) hbs3) }
          clear hown' hgrow hrow3
          go_wp2
          go_roundw
          case rel => exact ⟨k + 1, by go_num, by omega, HP4⟩
          case measure => simp only [intOf]; omega
    · obtain rfl : k = c.items.length := by omega
      go_wp2
      go_ret
      exact ⟨_, rfl, by have := hP2.out.row; unfold ownP; rw [HIE.out]; exact this, hP2.out.below⟩
/-- impl's: numbers as elements of a map. -/
def numR (v : Value) : Option (DataW Unit × List MemPlace) := match v with
  | .int .i64 z => some (.lit (.int .i64 z), [])
  | _ => none
def numD (z : Int) : DataW Unit := .lit (.int .i64 z)
theorem numR_mk (z : Int) : numR (.int .i64 z) = some (numD z, []) := rfl
set_option maxRecDepth 100000 in
theorem lookupIn_any (T : Nat) (w : World) :
    Calls Tryz.prog 92 #[.pointer (some ⟨T, 0, none⟩)] w fun e w' => e = .returned (.pointer (some ⟨w.heap.size + 1, 0, none⟩)) ∧
      Row w' (w.heap.size + 1) 189 [.pointer (some ⟨T, 0, none⟩), .map (some w.heap.size)] ∧ w'.ownsMap Tryz.prog 59 numR w.heap.size 0 (.map []) ∧ Below w.heap.size w w' := by
  have hM := (World.ownsMap_made w Tryz.prog 59 numR).alloc (.cells #[.pointer (some ⟨T, 0, none⟩), .map (some w.heap.size)] 189)
  have hR := Row.new (w.alloc (.map #[] 0)) [.pointer (some ⟨T, 0, none⟩), .map (some w.heap.size)] 189
  rw [World.size_alloc] at hR
  have H := Lib.hid (And.intro hR (And.intro hM (((Below.refl w.heap.size w).alloc (Nat.le_refl _) (.map #[] 0)).alloc (by simp) (.cells #[.pointer (some ⟨T, 0, none⟩), .map (some w.heap.size)] 189))))
  have hmm := @run_makeMap Tryz.prog
  clear hM hR
  go_enter Tryz.func92, Tryz.ntmps92
  go_wp2
  go_ret
  exact ⟨rfl, H.out.1, H.out.2.1, H.out.2.2⟩
set_option maxRecDepth 100000 in
set_option maxHeartbeats 1600000 in
theorem own_any {ss : List Sc} (hv : Valid ss) {w : World} {B T M1 M2 : Nat} {v : Value} {ds : List Nd} (hT : TreeIs w B T M1 M2 v ds ss) {s : Nat} {d : Nd} (hd : ds[s]? = some d) (nm : ByteArray) :
    Calls Tryz.prog 130 #[.pointer (some ⟨d.blk, 0, none⟩), .string nm] w (PlsGot (ownP ss s nm) w) := by
  have hs : s < ss.length := by have := (List.getElem?_eq_some_iff.1 hd).1; have := hT.hold.len; omega
  obtain ⟨c, hsc⟩ : ∃ c, ss[s]? = some c := ⟨_, List.getElem?_eq_getElem hs⟩
  have hil := scope_items (hv.scopes s c hsc)
  have hn6 := hv.count.2
  obtain ⟨oi, ci, hdi, hci⟩ := hT.hold.items s d c hd hsc
  have nk := hT.tree.node s d hd
  have n0 := nk.2.cell (i := 0) (v := .int .i64 (s : Int)) (by rfl)
  have n2 := nk.2.cell (i := 2) (v := d.items) (by rfl)
  rw [hdi] at n2
  have HNK : Hid (Row w d.blk 193 (d.cells s)) := Lib.hid nk.2
  have HI := Lib.hid hci
  have HIE := Lib.hid (itemsP_of hsc)
  clear hv hT hd hsc hdi hci nk
  go_enter Tryz.func130, Tryz.ntmps130
  go_wp2
  go_loopw [5, 13] (fun v i wr => ∃ k : Nat, i = .int .i64 k ∧ k ≤ c.items.length ∧ Hid (wr.ownsRow w.heap.size 59 2 v (ownUp c.items s nm k).length (placeCells (ownUp c.items s nm k)) ∧ Below w.heap.size w wr)) (fun _ i _ => c.items.length - (intOf i).toNat)
  case atStart => exact ⟨0, rfl, Nat.zero_le _, Lib.hid ⟨World.ownsRow_nil _ _ _ _, Below.refl _ _⟩⟩
  case round =>
    obtain ⟨k, rfl, hk, hP2⟩ := hrel
    by_cases hlt2 : k < c.items.length
    · obtain ⟨x, hx⟩ : ∃ x, c.items[k]? = some x := ⟨_, List.getElem?_eq_getElem hlt2⟩
      obtain ⟨b2, o2, rfl, hb2, hcell2⟩ := HI.out.at (by omega)
      obtain ⟨x0, x1, x2⟩ := hcell2 k x hx
      have y0 := (hP2.out.2.cell (p := ⟨b2, o2 + k * 3, none⟩) hb2).trans x0
      have y1 := (hP2.out.2.cell (p := ⟨b2, o2 + k * 3 + 1, none⟩) hb2).trans x1
      have y2 := (hP2.out.2.cell (p := ⟨b2, o2 + k * 3 + 2, none⟩) hb2).trans x2
      have hbx := (Below.refl wr.heap.size wr).alloc (Nat.le_refl _) (.cells #[.int .i64 x.kind, .string x.name, .int .i64 x.scope] 137)
      have HP3 := Lib.hid (And.intro (hP2.out.1.alloc (.cells #[.int .i64 x.kind, .string x.name, .int .i64 x.scope] 137)) (hP2.out.2.trans (hbx.mono hP2.out.2.size)))
      have m0 := (HNK.out.below HP3.out.2 HNK.out.lt).cell (i := 0) (v := .int .i64 (s : Int)) (by rfl)
      have hpl := ownUp_length c.items s nm k
      have HST := Lib.hid (ownUp_snoc (s := s) (nm := nm) hx)
      have hbs2 := hP2.out.2.size
      clear hx hcell2 x0 x1 x2 hbx
      cases hq1 : (x.kind == 1) with
      | false =>
        have HE : Hid (ownUp c.items s nm (k + 1) = ownUp c.items s nm k) := Lib.hid (by rw [HST.out]; simp [isOwn, hq1])
        go_wp2
        go_roundw
        case rel => exact ⟨k + 1, by go_num, by omega, by rw [HE.out]; exact HP3⟩
        case measure => simp only [intOf]; omega
      | true =>
        cases hq2 : (x.name.toList == nm.toList) with
        | false =>
          have HE : Hid (ownUp c.items s nm (k + 1) = ownUp c.items s nm k) := Lib.hid (by rw [HST.out]; simp [isOwn, hq2])
          go_wp2
          go_roundw
          case rel => exact ⟨k + 1, by go_num, by omega, by rw [HE.out]; exact HP3⟩
          case measure => simp only [intOf]; omega
        | true =>
          have HE : Hid (ownUp c.items s nm (k + 1) = ownUp c.items s nm k ++ [((s : Int), (k : Int))]) := Lib.hid (by rw [HST.out]; simp [isOwn, hq1, hq2])
          generalize hpe : ownUp c.items s nm k = pre at hpl
          rw [hpe] at HP3 HE
          have hrow3 := HP3.out.1
          obtain ⟨i0, hi0, hz0, hz1, hz2⟩ := info_parts infoPl
          have hbs3 := HP3.out.2.size
          clear hpe
          go_wp2_with (at_builtin; refine wpList_append_own _ rfl _ _ 36 rfl w.heap.size 59 i0 (.agg #[.int .i64 0, .int .i64 0]) 2 16 Tryz.underlying36 hi0 hz0 hz1 hz2 rfl (by decide) _ _ _ rfl (hrow3.alloc _) ⟨wr.heap.size + 1, 0, none⟩ 1 1 [.int .i64 (s : Int), .int .i64 (k : Int)] rfl rfl ?c1 ?c2 ?c3 ?c4 ?c5 ?_)
          all_goals try (case c1 => first | exact cells_new2 _ _ _ _ | (intro j u hu; have h5 := cells_new2 (wr.alloc (.cells #[.int .i64 x.kind, .string x.name, .int .i64 x.scope] 137)) _ _ 59 j u hu; rw [World.size_alloc] at h5; exact h5))
          all_goals try (case c2 => first | (exact ⟨rfl, rfl⟩) | (intro u hu; simp only [List.mem_cons, List.mem_nil_iff, or_false] at hu; rcases hu with rfl | rfl <;> rfl))
          all_goals try (case c3 => unfold maxLen; omega)
          all_goals try (case c4 => omega)
          all_goals try (case c5 => first | omega | (simp only [World.size_alloc]; omega) | (simp; omega))
          intro v' w' hown' hgrow _
          have HP4 : Hid (w'.ownsRow w.heap.size 59 2 v' (ownUp c.items s nm (k + 1)).length (placeCells (ownUp c.items s nm (k + 1))) ∧ Below w.heap.size w w') := Lib.hid
            ⟨by rw [HE.out, List.length_append, placeCells_snoc]; exact hown', HP3.out.2.trans (below_append2 HP3.out.1 hgrow (Nat.le_refl w.heap.size) hbs3)⟩
          clear hown' hgrow hrow3
          go_wp2
          go_roundw
          case rel => exact ⟨k + 1, by go_num, by omega, HP4⟩
          case measure => simp only [intOf]; omega
    · obtain rfl : k = c.items.length := by omega
      go_wp2
      go_ret
      exact ⟨_, rfl, by have := hP2.out.1; unfold ownP; rw [HIE.out]; exact this, hP2.out.2⟩
end Go.Proofs.YtgehpaojbnpbcaaGreatDoor
namespace Go.Proofs.YtgehpaojbnpbcaaGreatDoor
open Go Go.RowKit Go.Maps
end Go.Proofs.YtgehpaojbnpbcaaGreatDoor
namespace Go.Proofs.YtgehpaojbnpbcaaGreatDoor
open Go Go.RowKit
/-- The declarations of a name in scopes. -/
def fromP (ss : List Sc) (l : List Nat) (nm : ByteArray) : List (Int × Int) := l.flatMap fun k => ownP ss k nm
theorem fromP_snoc (ss : List Sc) (l : List Nat) (k : Nat) (nm : ByteArray) : fromP ss (l ++ [k]) nm = fromP ss l nm ++ ownP ss k nm := by simp [fromP]
/-- What is found: at which scope, how, and the declarations. -/
structure Found where
  scope : Int
  way : Int
  places : List (Int × Int)
/-- The first of a chain's scopes at which a name is found, by what each imports. -/
def lookF (ss : List Sc) (imps : Nat → List Nat) (nm : ByteArray) : List Nat → Found
  | [] => ⟨-1, 0, []⟩
  | m :: r => if (ownP ss m nm).isEmpty = true then (if (fromP ss (imps m) nm).isEmpty = true then lookF ss imps nm r else ⟨(m : Int), 2, fromP ss (imps m) nm⟩) else ⟨(m : Int), 1, ownP ss m nm⟩
theorem lookF_congr {ss : List Sc} {f g : Nat → List Nat} {nm : ByteArray} : ∀ {l : List Nat}, (∀ m ∈ l, f m = g m) → lookF ss f nm l = lookF ss g nm l
  | [], _ => rfl
  | m :: r, h => by
    have h1 := h m List.mem_cons_self
    have h2 := lookF_congr (ss := ss) (nm := nm) (l := r) fun k hk => h k (List.mem_cons_of_mem _ hk)
    show (if _ then (if _ then _ else _) else _) = (if _ then (if _ then _ else _) else _)
    rw [h1, h2]
/-- What an import of a name in a scope means. -/
def meantF (ss : List Sc) (imps : Nat → List Nat) (s : Nat) (nm : ByteArray) : List (Int × Int) :=
  if (ownP ss s nm).isEmpty = true then (match parP ss s with
    | none => []
    | some p => (lookF ss imps nm (chainP ss p)).places) else ownP ss s nm
/-- The scope of the item at a place. -/
def scopeAt (ss : List Sc) (p : Int × Int) : Int := ((itemAtP ss p.1 p.2).getD zeroIt).scope
/-- The scope that an import brings in, or -1. -/
def targetF (ss : List Sc) (imps : Nat → List Nat) (s : Nat) (nm : ByteArray) : Int := match meantF ss imps s nm with
  | [p] => scopeAt ss p
  | _ => -1
/-- One item more. -/
def impStep (ss : List Sc) (imps : Nat → List Nat) (s : Nat) (out : List Nat) (x : It) : List Nat :=
  if x.kind = 3 then (if targetF ss imps s x.name = -1 ∨ (targetF ss imps s x.name).toNat ∈ out then out else out ++ [(targetF ss imps s x.name).toNat]) else out
/-- The scopes that the first k items of a scope import. -/
def impUp (ss : List Sc) (imps : Nat → List Nat) (s : Nat) (xs : List It) (k : Nat) : List Nat := (xs.take k).foldl (impStep ss imps s) []
theorem impUp_snoc {ss : List Sc} {imps : Nat → List Nat} {s k : Nat} {xs : List It} {x : It} (h : xs[k]? = some x) : impUp ss imps s xs (k + 1) = impStep ss imps s (impUp ss imps s xs k) x := by
  unfold impUp
  rw [List.take_add_one, h]
  simp
def impF (ss : List Sc) (imps : Nat → List Nat) (s : Nat) : List Nat := impUp ss imps s (itemsP ss s) (itemsP ss s).length
theorem meantF_congr {ss : List Sc} (hC : Climbs ss) {f g : Nat → List Nat} {s : Nat} (h : ∀ m, m < s → f m = g m) (nm : ByteArray) : meantF ss f s nm = meantF ss g s nm := by
  unfold meantF
  cases hp : parP ss s with
  | none => rfl
  | some p =>
    have := lookF_congr (ss := ss) (nm := nm) (l := chainP ss p) (f := f) (g := g) fun m hm => h m (by have := chain_le hC p m hm; have := hC.par hp; omega)
    simp only [this]
theorem targetF_congr {ss : List Sc} (hC : Climbs ss) {f g : Nat → List Nat} {s : Nat} (h : ∀ m, m < s → f m = g m) (nm : ByteArray) : targetF ss f s nm = targetF ss g s nm := by
  unfold targetF
  rw [meantF_congr hC h]
theorem impF_congr {ss : List Sc} (hC : Climbs ss) {f g : Nat → List Nat} {s : Nat} (h : ∀ m, m < s → f m = g m) : impF ss f s = impF ss g s := by
  unfold impF impUp
  congr 1
  funext out x
  unfold impStep
  rw [targetF_congr hC h]
/-- The first k scopes' lists. -/
def tabP (ss : List Sc) : Nat → List (List Nat)
  | 0 => []
  | k + 1 => tabP ss k ++ [impF ss (fun m => (tabP ss k).getD m []) k]
theorem tabP_length (ss : List Sc) : ∀ k : Nat, (tabP ss k).length = k
  | 0 => rfl
  | k + 1 => by simp [tabP, tabP_length ss k]
/-- The scopes that a scope imports, each once. -/
def impP (ss : List Sc) (s : Nat) : List Nat := impF ss (fun m => (tabP ss s).getD m []) s
theorem tabP_get (ss : List Sc) {m : Nat} : ∀ k : Nat, m < k → (tabP ss k)[m]? = some (impP ss m)
  | k + 1, h => by
    show (tabP ss k ++ [impF ss (fun m => (tabP ss k).getD m []) k])[m]? = _
    by_cases hm : m < k
    · rw [List.getElem?_append_left (by rw [tabP_length]; exact hm)]
      exact tabP_get ss k hm
    · obtain rfl : m = k := by omega
      rw [List.getElem?_append_right (by rw [tabP_length]; exact Nat.le_refl _), tabP_length, Nat.sub_self]
      rfl
theorem tabP_getD (ss : List Sc) {m k : Nat} (h : m < k) : (tabP ss k).getD m [] = impP ss m := by
  rw [List.getD_eq_getElem?_getD, tabP_get ss k h]; rfl
theorem tabP_snoc {ss : List Sc} (hC : Climbs ss) (k : Nat) : tabP ss (k + 1) = tabP ss k ++ [impF ss (impP ss) k] := by
  show tabP ss k ++ [impF ss (fun m => (tabP ss k).getD m []) k] = _
  rw [impF_congr hC (g := impP ss) fun m hm => tabP_getD ss hm]
theorem impP_eq {ss : List Sc} (hC : Climbs ss) (s : Nat) : impP ss s = impF ss (impP ss) s := impF_congr hC fun _ hm => tabP_getD ss hm
/-- What a name finds from a scope; what an import means, and what it brings in. -/
def lookP (ss : List Sc) (s : Nat) (nm : ByteArray) : Found := lookF ss (impP ss) nm (chainP ss s)
def meantP (ss : List Sc) (s : Nat) (nm : ByteArray) : List (Int × Int) := meantF ss (impP ss) s nm
def targetP (ss : List Sc) (s : Nat) (nm : ByteArray) : Int := targetF ss (impP ss) s nm
theorem meantP_own {ss : List Sc} {s : Nat} {nm : ByteArray} (h : (ownP ss s nm).isEmpty = false) : meantP ss s nm = ownP ss s nm := by unfold meantP meantF; rw [h]; rfl
theorem meantP_none {ss : List Sc} {s : Nat} {nm : ByteArray} (h : (ownP ss s nm).isEmpty = true) (hp : parP ss s = none) : meantP ss s nm = [] := by unfold meantP meantF; rw [h, hp]; rfl
theorem meantP_par {ss : List Sc} {s p : Nat} {nm : ByteArray} (h : (ownP ss s nm).isEmpty = true) (hp : parP ss s = some p) : meantP ss s nm = (lookP ss p nm).places := by unfold meantP meantF; rw [h, hp]; rfl
theorem targetP_one {ss : List Sc} {s : Nat} {nm : ByteArray} {p : Int × Int} (h : meantP ss s nm = [p]) : targetP ss s nm = scopeAt ss p := by
  unfold targetP targetF
  have h' : meantF ss (impP ss) s nm = [p] := h
  rw [h']
theorem targetP_not {ss : List Sc} {s : Nat} {nm : ByteArray} (h : (meantP ss s nm).length ≠ 1) : targetP ss s nm = -1 := by
  unfold targetP targetF
  show (match meantP ss s nm with | [p] => scopeAt ss p | _ => -1) = -1
  split
  · rename_i p hp; rw [hp] at h; exact absurd rfl h
  · rfl
theorem mem_ownUp {xs : List It} {s : Nat} {nm : ByteArray} {p : Int × Int} : ∀ k : Nat, p ∈ ownUp xs s nm k → ∃ (j : Nat) (x : It), j < k ∧ xs[j]? = some x ∧ isOwn nm x = true ∧ p = ((s : Int), (j : Int))
  | 0, h => by simp [ownUp] at h
  | k + 1, h => by
    have h' : p ∈ ownUp xs s nm k ++ _ := h
    rw [List.mem_append] at h'
    rcases h' with h' | h'
    · obtain ⟨j, x, h1, h2⟩ := mem_ownUp k h'
      exact ⟨j, x, by omega, h2⟩
    · split at h'
      · rename_i x hx
        split at h'
        · rename_i ho
          simp only [List.mem_singleton] at h'
          exact ⟨k, x, by omega, hx, ho, h'⟩
        · simp at h'
      · simp at h'
/-- A place of a declaration of a scope. -/
theorem mem_ownP {ss : List Sc} {s : Nat} {nm : ByteArray} {p : Int × Int} (h : p ∈ ownP ss s nm) : ∃ (c : Sc) (j : Nat) (x : It), ss[s]? = some c ∧ c.items[j]? = some x ∧ isOwn nm x = true ∧ p = ((s : Int), (j : Int)) := by
  obtain ⟨j, x, hj, hx, ho, hp⟩ := mem_ownUp _ h
  unfold itemsP at hx
  cases hc : ss[s]? with
  | none => rw [hc] at hx; simp at hx
  | some c =>
    rw [hc] at hx
    exact ⟨c, j, x, rfl, by simpa using hx, ho, hp⟩
/-- A place of an item. -/
def IsPlace (ss : List Sc) (p : Int × Int) : Prop := ∃ (i j : Nat) (c : Sc) (x : It), p = ((i : Int), (j : Int)) ∧ ss[i]? = some c ∧ c.items[j]? = some x
theorem own_isPlace {ss : List Sc} {s : Nat} {nm : ByteArray} : ∀ p ∈ ownP ss s nm, IsPlace ss p := fun p hp => by
  obtain ⟨c, j, x, hc, hx, _, rfl⟩ := mem_ownP hp
  exact ⟨s, j, c, x, rfl, hc, hx⟩
theorem from_isPlace {ss : List Sc} {l : List Nat} {nm : ByteArray} : ∀ p ∈ fromP ss l nm, IsPlace ss p := fun p hp => by
  unfold fromP at hp
  obtain ⟨k, _, hk⟩ := List.mem_flatMap.1 hp
  exact own_isPlace p hk
theorem look_isPlace {ss : List Sc} {imps : Nat → List Nat} {nm : ByteArray} : ∀ {l : List Nat}, ∀ p ∈ (lookF ss imps nm l).places, IsPlace ss p
  | [], p, hp => by simp [lookF] at hp
  | m :: r, p, hp => by
    unfold lookF at hp
    split at hp
    · split at hp
      · exact look_isPlace p hp
      · exact from_isPlace p hp
    · exact own_isPlace p hp
theorem meant_isPlace {ss : List Sc} {s : Nat} {nm : ByteArray} : ∀ p ∈ meantP ss s nm, IsPlace ss p := fun p hp => by
  unfold meantP meantF at hp
  split at hp
  · split at hp
    · simp at hp
    · exact look_isPlace p hp
  · exact own_isPlace p hp
theorem scopeAt_of {ss : List Sc} {i j : Nat} {c : Sc} {x : It} (hc : ss[i]? = some c) (hx : c.items[j]? = some x) : scopeAt ss ((i : Int), (j : Int)) = x.scope := by
  unfold scopeAt
  rw [itemAtP_nat hc, hx]; rfl
/-- In a valid graph what an import brings in is none, or a scope. -/
theorem scope_ok {ss : List Sc} (hv : Valid ss) {q : Nat × Nat × It} (hq : q ∈ placed 0 ss) : q.2.2.scope = -1 ∨ ∃ m : Nat, q.2.2.scope = (m : Int) ∧ m < ss.length := by
  have h1 : (q.1, q.2.2) ∈ flat 0 ss := by rw [← placed_flat]; exact List.mem_map.2 ⟨q, hq, rfl⟩
  have h2 := (hv.items.1 _ h1).2
  unfold modB at h2
  by_cases h : q.2.2.scope = -1
  · exact .inl h
  · right
    have h0 : (q.2.2.scope == -1) = false := by simpa using h
    simp only [h0, Bool.false_or, Bool.and_eq_true] at h2
    have h3 := h2.1
    unfold inB at h3
    simp only [Bool.and_eq_true, decide_eq_true_eq] at h3
    exact ⟨q.2.2.scope.toNat, by omega, by omega⟩
theorem target_ok {ss : List Sc} (hv : Valid ss) (s : Nat) (nm : ByteArray) : targetP ss s nm = -1 ∨ ∃ m : Nat, targetP ss s nm = (m : Int) ∧ m < ss.length := by
  by_cases h : (meantP ss s nm).length = 1
  · obtain ⟨p, hp⟩ := List.length_eq_one_iff.1 h
    rw [targetP_one hp]
    obtain ⟨i, j, c, x, rfl, hc, hx⟩ := meant_isPlace p (by rw [hp]; exact List.mem_singleton.2 rfl)
    rw [scopeAt_of hc hx]
    exact scope_ok hv (mem_placed.2 ⟨c, Nat.zero_le _, by simpa using hc, hx⟩ : (i, j, x) ∈ placed 0 ss)
  · exact .inl (targetP_not h)
/-- What a scope imports are scopes, each once. -/
theorem impUp_ok {ss : List Sc} (hv : Valid ss) (s : Nat) (xs : List It) : ∀ k : Nat, (∀ m ∈ impUp ss (impP ss) s xs k, m < ss.length) ∧ (impUp ss (impP ss) s xs k).Nodup
  | 0 => by simp [impUp]
  | k + 1 => by
    have ih := impUp_ok hv s xs k
    cases hx : xs[k]? with
    | none =>
      have : impUp ss (impP ss) s xs (k + 1) = impUp ss (impP ss) s xs k := by
        unfold impUp
        rw [List.take_add_one, hx]
        simp
      rw [this]; exact ih
    | some x =>
      rw [impUp_snoc hx]
      unfold impStep
      split
      · split
        · exact ih
        · rename_i h
          rcases target_ok hv s x.name with h1 | ⟨m, h1, h2⟩
          · exact absurd (.inl h1) h
          · have e : (targetF ss (impP ss) s x.name).toNat = m := by
              have : targetF ss (impP ss) s x.name = (m : Int) := h1
              rw [this]; simp
            rw [e] at h ⊢
            constructor
            · intro k hk
              rw [List.mem_append, List.mem_singleton] at hk
              rcases hk with hk | rfl
              · exact ih.1 k hk
              · exact h2
            · rw [List.nodup_append]
              refine ⟨ih.2, by simp, ?_⟩
              intro a ha b hb
              rw [List.mem_singleton] at hb
              subst hb
              rintro rfl
              exact h (.inr ha)
      · exact ih
theorem impP_ok {ss : List Sc} (hv : Valid ss) (s : Nat) : (∀ m ∈ impP ss s, m < ss.length) ∧ (impP ss s).Nodup := by
  rw [impP_eq hv.climbs]
  exact impUp_ok hv s _ _
theorem length_le_of_nodup_lt : ∀ {n : Nat} {l : List Nat}, l.Nodup → (∀ m ∈ l, m < n) → l.length ≤ n
  | n, l, hd, hl => by
    have h := List.Nodup.length_le_of_subset (l₁ := l) (l₂ := List.range n) hd (fun m hm => List.mem_range.2 (hl m hm))
    simpa using h
theorem impUp_length {ss : List Sc} (s : Nat) (xs : List It) : ∀ k : Nat, (impUp ss (impP ss) s xs k).length ≤ k
  | 0 => by simp [impUp]
  | k + 1 => by
    have ih := impUp_length (ss := ss) s xs k
    cases hx : xs[k]? with
    | none =>
      have : impUp ss (impP ss) s xs (k + 1) = impUp ss (impP ss) s xs k := by
        unfold impUp
        rw [List.take_add_one, hx]
        simp
      rw [this]; omega
    | some x =>
      rw [impUp_snoc hx]
      unfold impStep
      split
      · split
        · omega
        · rw [List.length_append]; simp; omega
      · omega
theorem impP_length {ss : List Sc} (hv : Valid ss) (s : Nat) : (impP ss s).length ≤ 5 := by
  rw [impP_eq hv.climbs]
  have h1 := impUp_length (ss := ss) s (itemsP ss s) (itemsP ss s).length
  have h2 : (itemsP ss s).length ≤ 5 := by
    unfold itemsP
    cases h : ss[s]? with
    | none => simp
    | some c => simpa using scope_items (hv.scopes s c h)
  unfold impF
  omega
theorem fromP_length {ss : List Sc} (hv : Valid ss) (nm : ByteArray) : ∀ l : List Nat, (fromP ss l nm).length ≤ 5 * l.length
  | [] => by simp [fromP]
  | k :: r => by
    have ih := fromP_length hv nm r
    have h1 := ownP_length hv k nm
    have : fromP ss (k :: r) nm = ownP ss k nm ++ fromP ss r nm := by simp [fromP]
    rw [this, List.length_append, List.length_cons]
    omega
theorem lookF_length {ss : List Sc} (hv : Valid ss) (nm : ByteArray) : ∀ l : List Nat, (lookF ss (impP ss) nm l).places.length ≤ 25
  | [] => by simp [lookF]
  | m :: r => by
    unfold lookF
    split
    · split
      · exact lookF_length hv nm r
      · have h1 := fromP_length hv nm (impP ss m)
        have h2 := impP_length hv m
        show (fromP ss (impP ss m) nm).length ≤ 25
        omega
    · have h1 := ownP_length hv m nm
      show (ownP ss m nm).length ≤ 25
      omega
theorem impStep_other {ss : List Sc} {imps : Nat → List Nat} {s : Nat} {out : List Nat} {x : It} (h : x.kind ≠ 3) : impStep ss imps s out x = out := by unfold impStep; rw [if_neg h]
theorem impStep_none {ss : List Sc} {s : Nat} {out : List Nat} {x : It} (h : targetP ss s x.name = -1) : impStep ss (impP ss) s out x = out := by
  unfold impStep
  split
  · rw [if_pos (.inl h)]
  · rfl
theorem impStep_in {ss : List Sc} {s m : Nat} {out : List Nat} {x : It} (h : targetP ss s x.name = (m : Int)) (hm : m ∈ out) : impStep ss (impP ss) s out x = out := by
  unfold impStep
  split
  · rw [if_pos (.inr (by rw [show targetF ss (impP ss) s x.name = (m : Int) from h]; simpa using hm))]
  · rfl
theorem impStep_new {ss : List Sc} {s m : Nat} {out : List Nat} {x : It} (hk : x.kind = 3) (h : targetP ss s x.name = (m : Int)) (hm : m ∉ out) : impStep ss (impP ss) s out x = out ++ [m] := by
  unfold impStep
  have h' : targetF ss (impP ss) s x.name = (m : Int) := h
  have hn : ¬ ((m : Int) = -1 ∨ (m : Int).toNat ∈ out) := by
    rintro (h1 | h1)
    · omega
    · rw [Int.toNat_natCast] at h1; exact hm h1
  rw [if_pos hk, h', if_neg hn]
  simp
end Go.Proofs.YtgehpaojbnpbcaaGreatDoor
namespace Go.Proofs.YtgehpaojbnpbcaaGreatDoor
open Go Go.RowKit
set_option maxRecDepth 100000 in
theorem l2In_any (xs : List Int) (oa : Option Addr) (cap : Nat) (n : Int) (w : World) (hn : xs.length < 2 ^ 40) (h : HoldsInts w oa xs) :
    Calls Tryz.prog 127 #[.slice oa xs.length cap, .int .i64 n] w fun e w' => e = .returned (.bool (decide (n ∈ xs))) ∧ Below w.heap.size w w' := by
  have K := Lib.hid h
  clear h
  go_enter Tryz.func127, Tryz.ntmps127
  go_wp2
  go_loopw [9] (fun i wr => ∃ k : Nat, i = .int .i64 k ∧ k ≤ xs.length ∧ Hid (n ∉ xs.take k) ∧ Below w.heap.size w wr) (fun i _ => xs.length - (intOf i).toNat)
  case atStart => exact ⟨0, rfl, Nat.zero_le _, Lib.hid (by simp), Below.refl _ _⟩
  case round =>
    obtain ⟨k, rfl, hk, hno, hb⟩ := hrel
    by_cases hlt : k < xs.length
    · obtain ⟨x, hx⟩ : ∃ x, xs[k]? = some x := ⟨_, List.getElem?_eq_getElem hlt⟩
      obtain ⟨b1, f1, rfl, hb1, q1⟩ := K.out.at (by omega)
      have a0 := (hb.cell (p := ⟨b1, f1 + k, none⟩) hb1).trans (q1 k x hx)
      have HX := Lib.hid hx
      clear hx q1
      by_cases he : x = n
      · have HM : Hid (n ∈ xs) := Lib.hid (by rw [← he]; exact List.mem_of_getElem? HX.out)
        have hq : (x == n) = true := by simpa using he
        clear he
        go_wp2
        go_ret
        exact ⟨by simp [HM.out], hb⟩
      · have HN : Hid (n ∉ xs.take (k + 1)) := Lib.hid (by
          rw [List.take_add_one, HX.out]
          simp only [Option.toList_some, List.mem_append, List.mem_singleton, not_or]
          exact ⟨hno.out, fun e => he e.symm⟩)
        have hq : (x == n) = false := by simpa using he
        clear he
        go_wp2
        go_roundw
        case rel => exact ⟨k + 1, by go_num, by omega, HN, hb⟩
        case measure => simp only [intOf]; omega
    · obtain rfl : k = xs.length := by omega
      have HN : Hid (n ∉ xs) := Lib.hid (by have := hno.out; rwa [List.take_length] at this)
      go_wp2
      go_ret
      exact ⟨by simp [HN.out], hb⟩
theorem mem_natInts {l : List Nat} {n : Nat} : (n : Int) ∈ natInts l ↔ n ∈ l := by
  unfold natInts
  rw [List.mem_map]
  constructor
  · rintro ⟨m, hm, e⟩
    obtain rfl : m = n := by omega
    exact hm
  · exact fun h => ⟨n, h, rfl⟩
theorem natInts_length (l : List Nat) : (natInts l).length = l.length := by simp [natInts]
end Go.Proofs.YtgehpaojbnpbcaaGreatDoor
namespace Go.Proofs.YtgehpaojbnpbcaaGreatDoor
open Go Go.RowKit Go.Maps
/-- A place of an item, as the map's key; what is remembered at it. -/
def IsItem (ss : List Sc) (q : Nat × Nat) : Prop := ∃ (c : Sc) (x : It), ss[q.1]? = some c ∧ c.items[q.2]? = some x
def qKey (q : Nat × Nat) : Lit := plLit (q.1 : Int) (q.2 : Int)
def tgt (ss : List Sc) (q : Nat × Nat) : Int := targetP ss q.1 ((itemAtP ss (q.1 : Int) (q.2 : Int)).getD zeroIt).name
def tgtVal (ss : List Sc) (q : Nat × Nat) : DataW Unit := numD (tgt ss q)
theorem tgt_of {ss : List Sc} {i j : Nat} {c : Sc} {x : It} (hc : ss[i]? = some c) (hx : c.items[j]? = some x) : tgt ss (i, j) = targetP ss i x.name := by
  unfold tgt
  rw [itemAtP_nat hc, hx]
  rfl
theorem qKey_is (q : Nat × Nat) : WideAt.IsKeyLit (qKey q) := trivial
theorem item_bounds {ss : List Sc} (hv : Valid ss) {q : Nat × Nat} (h : IsItem ss q) : q.1 < 6 ∧ q.2 < 5 := by
  obtain ⟨c, x, hc, hx⟩ := h
  have h1 := (List.getElem?_eq_some_iff.1 hc).1
  have h2 := (List.getElem?_eq_some_iff.1 hx).1
  have h3 := hv.count.2
  have h4 := hv.five c (List.mem_of_getElem? hc)
  omega
theorem qKey_inj {ss : List Sc} (hv : Valid ss) {p q : Nat × Nat} (hp : IsItem ss p) (hq : IsItem ss q) (h : qKey p = qKey q) : p = q := by
  have b1 := item_bounds hv hp
  have b2 := item_bounds hv hq
  have := plLit_inj (wf_small (by omega)) (wf_small (by omega)) (wf_small (by omega)) (wf_small (by omega)) h
  obtain ⟨a, b⟩ := p
  obtain ⟨c, d⟩ := q
  simp only [Prod.mk.injEq] at *
  omega
theorem nodup_keys {ss : List Sc} (hv : Valid ss) : ∀ {l : List (Nat × Nat)}, l.Nodup → (∀ q ∈ l, IsItem ss q) → (l.map qKey).Nodup
  | [], _, _ => by simp
  | p :: r, hn, hi => by
    rw [List.nodup_cons] at hn
    rw [List.map_cons, List.nodup_cons]
    refine ⟨fun hm => ?_, nodup_keys hv hn.2 fun q hq => hi q (List.mem_cons_of_mem _ hq)⟩
    obtain ⟨q, hq, he⟩ := List.mem_map.1 hm
    exact hn.1 (qKey_inj hv (hi q (List.mem_cons_of_mem _ hq)) (hi p List.mem_cons_self) he ▸ hq)
theorem items_bound {ss : List Sc} (hv : Valid ss) {l : List (Nat × Nat)} (hn : l.Nodup) (hi : ∀ q ∈ l, IsItem ss q) : l.length ≤ 30 := by
  have hl : (l.map fun q => q.1 * 5 + q.2).Nodup := by
    induction l with
    | nil => simp
    | cons p r ih =>
      rw [List.nodup_cons] at hn
      rw [List.map_cons, List.nodup_cons]
      refine ⟨fun hm => ?_, ih hn.2 fun q hq => hi q (List.mem_cons_of_mem _ hq)⟩
      obtain ⟨q, hq, he⟩ := List.mem_map.1 hm
      have b1 := item_bounds hv (hi p List.mem_cons_self)
      have b2 := item_bounds hv (hi q (List.mem_cons_of_mem _ hq))
      refine hn.1 ?_
      have : q = p := by
        obtain ⟨a, b⟩ := p
        obtain ⟨c, d⟩ := q
        simp only [Prod.mk.injEq] at *
        omega
      exact this ▸ hq
  have h := length_le_of_nodup_lt (n := 30) hl (fun m hm => by
    obtain ⟨q, hq, rfl⟩ := List.mem_map.1 hm
    have := item_bounds hv (hi q hq)
    omega)
  simpa using h
/-- The map of targets: some places, each once, each with its target. -/
def Memo (w : World) (M : Nat) (ss : List Sc) : Prop := ∃ l : List (Nat × Nat), l.Nodup ∧ (∀ q ∈ l, IsItem ss q) ∧ w.ownsMap Tryz.prog 59 numR M l.length (putInto qKey (tgtVal ss) (.map []) l)
theorem nilMap : IsMap (.map [] : DataW Unit) := ⟨_, rfl⟩
theorem has_memo {ss : List Sc} (hv : Valid ss) {l : List (Nat × Nat)} (hi : ∀ q ∈ l, IsItem ss q) {q : Nat × Nat} (hq : IsItem ss q) : Maps.has (putInto qKey (tgtVal ss) (.map []) l) (qKey q) = true ↔ q ∈ l := by
  rw [putInto_has qKey (tgtVal ss) qKey_is (qKey q) l _ nilMap]
  constructor
  · rintro (h | ⟨p, hp, he⟩)
    · cases h
    · exact qKey_inj hv (hi p hp) hq he ▸ hp
  · exact fun h => .inr ⟨q, h, rfl⟩
theorem at_memo {ss : List Sc} (hv : Valid ss) {l : List (Nat × Nat)} (hn : l.Nodup) (hi : ∀ q ∈ l, IsItem ss q) {q : Nat × Nat} (hq : q ∈ l) (z : DataW Unit) : (putInto qKey (tgtVal ss) (.map []) l).atKey (qKey q) z = numD (tgt ss q) :=
  putInto_at qKey (tgtVal ss) qKey_is z l _ nilMap (nodup_keys hv hn hi) q hq
theorem zeroInt (w : World) : (zeroValue 3).run Tryz.prog w = .ok (.int .i64 0) w := by kernel_rfl
theorem numR_eq {v : Value} {z : Int} {ps : List MemPlace} (h : numR v = some (numD z, ps)) : v = .int .i64 z := by
  unfold numR at h
  split at h
  · simp only [Option.some.injEq, Prod.mk.injEq, numD, DataW.lit.injEq, Lit.int.injEq, true_and] at h
    rw [h.1]
  · cases h
/-- A place looked up among the targets. -/
theorem Memo.look {w : World} {M : Nat} {ss : List Sc} (hv : Valid ss) (h : Memo w M ss) {q : Nat × Nat} (hq : IsItem ss q) :
    ((Instr.lookup 162 (.map (some M)) (.agg #[.int .i64 (q.1 : Int), .int .i64 (q.2 : Int)]) true).run Tryz.prog w = .ok (.tuple #[.int .i64 (tgt ss q), .bool true]) w) ∨
    (∃ l : List (Nat × Nat), l.Nodup ∧ (∀ p ∈ l, IsItem ss p) ∧ q ∉ l ∧ w.ownsMap Tryz.prog 59 numR M l.length (putInto qKey (tgtVal ss) (.map []) l) ∧ ∃ z : Int, (Instr.lookup 162 (.map (some M)) (.agg #[.int .i64 (q.1 : Int), .int .i64 (q.2 : Int)]) true).run Tryz.prog w = .ok (.tuple #[.int .i64 z, .bool false]) w) := by
  obtain ⟨l, hn, hi, hm⟩ := h
  have b := item_bounds hv hq
  obtain ⟨v, ps, hrun, hval⟩ := hm.look_ok (t := 162) (e := 3) placeLaw Tryz.underlying162 (zeroInt _) (numR_mk 0) (pl_key (a := (q.1 : Int)) (b := (q.2 : Int)) (wf_small (by omega)) (wf_small (by omega)))
  have hrun' : (Instr.lookup 162 (.map (some M)) (.agg #[.int .i64 (q.1 : Int), .int .i64 (q.2 : Int)]) true).run Tryz.prog w = .ok (.tuple #[v, .bool (Maps.has (putInto qKey (tgtVal ss) (.map []) l) (qKey q))]) w := hrun
  by_cases hql : q ∈ l
  · left
    have e := at_memo hv hn hi hql (numD 0)
    have hval' : numR v = some ((putInto qKey (tgtVal ss) (.map []) l).atKey (qKey q) (numD 0), ps) := hval
    rw [e] at hval'
    rw [(has_memo hv hi hq).2 hql, numR_eq hval'] at hrun'
    exact hrun'
  · right
    have hf : Maps.has (putInto qKey (tgtVal ss) (.map []) l) (qKey q) = false := by
      cases hb : Maps.has (putInto qKey (tgtVal ss) (.map []) l) (qKey q) with
      | false => rfl
      | true => exact absurd ((has_memo hv hi hq).1 hb) hql
    rw [hf] at hrun'
    have hval' : numR v = some ((putInto qKey (tgtVal ss) (.map []) l).atKey (qKey q) (numD 0), ps) := hval
    rw [putInto_other qKey (tgtVal ss) (qKey q) (numD 0) l _ (fun p hp e => hql (qKey_inj hv (hi p hp) hq e ▸ hp))] at hval'
    have e0 : (DataW.map [] : DataW Unit).atKey (qKey q) (numD 0) = numD 0 := rfl
    rw [e0] at hval'
    rw [numR_eq hval'] at hrun'
    exact ⟨l, hn, hi, hql, hm, 0, hrun'⟩
theorem ownsMap_tight {w : World} {k : TypeId} {R : Value → Option (DataW Unit × List MemPlace)} {b n : Nat} {D : DataW Unit} (h : w.ownsMap Tryz.prog k R b n D) : w.ownsMap Tryz.prog k R b (Maps.size D) D := by
  obtain ⟨es, clock, hb, F, hs, rfl⟩ := h
  exact ⟨es, clock, hb, F, by simp [Maps.size, length_sorted], rfl⟩
theorem ownsMap_more {w : World} {k : TypeId} {R : Value → Option (DataW Unit × List MemPlace)} {b n m : Nat} {D : DataW Unit} (h : w.ownsMap Tryz.prog k R b n D) (hm : n ≤ m) : w.ownsMap Tryz.prog k R b m D := by
  obtain ⟨es, clock, hb, F, hs, rfl⟩ := h
  exact ⟨es, clock, hb, F, Nat.le_trans hs hm, rfl⟩
/-- A place's target remembered. -/
theorem memo_put {w : World} {M : Nat} {ss : List Sc} (hv : Valid ss) (h : Memo w M ss) {q : Nat × Nat} (hq : IsItem ss q) {z : Int} (hz : z = tgt ss q) :
    ∃ w', (Instr.mapUpdate 162 (.map (some M)) (.agg #[.int .i64 (q.1 : Int), .int .i64 (q.2 : Int)]) (.int .i64 z)).run Tryz.prog w = .ok () w' ∧ Memo w' M ss ∧ w.grownBy w' (some M) := by
  subst hz
  obtain ⟨l, hn, hi, hm⟩ := h
  have b := item_bounds hv hq
  have hl := items_bound hv hn hi
  obtain ⟨w', hrun, hown, hg⟩ := hm.update (t := 162) (e := 3) placeLaw Tryz.underlying162 (by unfold maxLen; omega) (pl_key (a := (q.1 : Int)) (b := (q.2 : Int)) (wf_small (by omega)) (wf_small (by omega))) (numR_mk (tgt ss q))
  have hown' : w'.ownsMap Tryz.prog 59 numR M (l.length + 1) ((putInto qKey (tgtVal ss) (.map []) l).put (qKey q) (numD (tgt ss q))) := hown
  refine ⟨w', hrun, ?_, hg⟩
  by_cases hql : q ∈ l
  · have hM := putInto_isMap qKey (tgtVal ss) l _ nilMap
    have e : (putInto qKey (tgtVal ss) (.map []) l).put (qKey q) (numD (tgt ss q)) = putInto qKey (tgtVal ss) (.map []) l := by
      refine Maps.ext (hown'.canon placeLaw) (hm.canon placeLaw) (fun k => ?_) (fun k z _ => ?_)
      · by_cases hk : k = qKey q
        · rw [hk, Maps.has_put_same hM (qKey_is q), (has_memo hv hi hq).2 hql]
        · exact Maps.has_put_other hk _
      · by_cases hk : k = qKey q
        · rw [hk, Maps.atKey_put_same hM (qKey_is q), at_memo hv hn hi hql]
        · exact Maps.atKey_put_other hk _ _
    rw [e] at hown'
    exact ⟨l, hn, hi, ownsMap_more (ownsMap_tight hown') hm.size_le⟩
  · refine ⟨l ++ [q], List.nodup_append.2 ⟨hn, by simp, by rintro a ha b hb rfl; rw [List.mem_singleton] at hb; exact hql (hb ▸ ha)⟩, fun p hp => ?_, ?_⟩
    · rcases List.mem_append.1 hp with h1 | h1
      · exact hi p h1
      · rw [List.mem_singleton] at h1; exact h1 ▸ hq
    · rw [putInto_snoc, List.length_append]
      exact hown'
theorem memo_nil {w : World} {M : Nat} {ss : List Sc} (h : w.ownsMap Tryz.prog 59 numR M 0 (.map [])) : Memo w M ss := ⟨[], by simp, by simp, h⟩
/-- A lookup in a tree. -/
structure LookW (w : World) (B L M T M1 M2 : Nat) (v : Value) (ds : List Nd) (ss : List Sc) : Prop where
  tree : TreeIs w B T M1 M2 v ds ss
  box : Row w L 189 [.pointer (some ⟨T, 0, none⟩), .map (some M)]
  memo : Memo w M ss
  ne1 : M1 ≠ M
  ne2 : M2 ≠ M
theorem Memo.block {w : World} {M : Nat} {ss : List Sc} (h : Memo w M ss) : ∃ es clock, w.heap[M]? = some (.map es clock) := by
  obtain ⟨l, _, _, es, clock, hh, _⟩ := h
  exact ⟨es, clock, hh⟩
theorem Memo.lt {w : World} {M : Nat} {ss : List Sc} (h : Memo w M ss) : M < w.heap.size := by
  obtain ⟨es, clock, hh⟩ := h.block
  exact (Array.getElem?_eq_some_iff.1 hh).1
theorem Memo.below {w w' : World} {M : Nat} {ss : List Sc} (h : Memo w M ss) (hb : Below w.heap.size w w') : Memo w' M ss := by
  obtain ⟨l, h1, h2, h3⟩ := h
  exact ⟨l, h1, h2, ownsMap_below h3 hb⟩
/-- What turns one map alone leaves all cells. -/
theorem Turns.cellsM {w W : World} {M : Nat} {ss : List Sc} (h : Turns w W M M) (m : Memo w M ss) : CellsKept w.heap.size w W where
  size := h.size
  block := fun g vs t fr hg hh => by
    have hne : g ≠ M := by
      rintro rfl
      obtain ⟨es, clock, h1⟩ := m.block
      rw [hh] at h1
      cases h1
    exact (h.rest g hg hne hne).trans hh
theorem NodesHold.keptC {n : Nat} {w w' : World} {ds : List Nd} {ss : List Sc} (h : NodesHold w ds ss) (hk : CellsKept n w w') (hn : w.heap.size ≤ n) : NodesHold w' ds ss where
  len := h.len
  items := fun i d s hd hs => by
    obtain ⟨oi, ci, h1, h2⟩ := h.items i d s hd hs
    exact ⟨oi, ci, h1, h2.kept hk hn⟩
theorem LookW.below {w w' : World} {B L M T M1 M2 : Nat} {v : Value} {ds : List Nd} {ss : List Sc} (h : LookW w B L M T M1 M2 v ds ss) (hb : Below w.heap.size w w') : LookW w' B L M T M1 M2 v ds ss :=
  ⟨h.tree.below hb, h.box.below hb h.box.lt, h.memo.below hb, h.ne1, h.ne2⟩
/-- Where the map of targets alone has turned. -/
theorem LookW.turned {w w' : World} {B L M T M1 M2 : Nat} {v : Value} {ds : List Nd} {ss : List Sc} (h : LookW w B L M T M1 M2 v ds ss) (ht : Turns w w' M M) (hm : Memo w' M ss) : LookW w' B L M T M1 M2 v ds ss :=
  have hk := ht.cellsM h.memo
  ⟨{ tree := h.tree.tree.kept hk (Nat.le_refl _)
     hold := h.tree.hold.keptC hk (Nat.le_refl _)
     pars := h.tree.pars
     items := by
       obtain ⟨n, es, clock, hh, r⟩ := h.tree.items
       exact ⟨n, es, clock, (ht.rest _ (Array.getElem?_eq_some_iff.1 hh).1 h.ne1 h.ne1).trans hh, r⟩
     mods := by
       obtain ⟨n, es, clock, hh, r⟩ := h.tree.mods
       exact ⟨n, es, clock, (ht.rest _ (Array.getElem?_eq_some_iff.1 hh).1 h.ne2 h.ne2).trans hh, r⟩
     low1 := h.tree.low1
     low2 := h.tree.low2 },
   (by
     have := h.box
     unfold Row at this ⊢
     exact hk.block L _ _ _ h.box.lt this), hm, h.ne1, h.ne2⟩
/-- What a call of a lookup's methods leaves: the answer, the lookup as it was, its map alone turned. -/
structure Left (w w' : World) (B L M T M1 M2 : Nat) (v : Value) (ds : List Nd) (ss : List Sc) : Prop where
  look : LookW w' B L M T M1 M2 v ds ss
  turns : Turns w w' M M
theorem Left.trans {a b c : World} {B L M T M1 M2 : Nat} {v : Value} {ds : List Nd} {ss : List Sc} (h : Left a b B L M T M1 M2 v ds ss) (k : Left b c B L M T M1 M2 v ds ss) : Left a c B L M T M1 M2 v ds ss := ⟨k.look, h.turns.trans k.turns⟩
theorem Left.step {a b c : World} {B L M T M1 M2 : Nat} {v : Value} {ds : List Nd} {ss : List Sc} (h : Left a b B L M T M1 M2 v ds ss) (k : Below b.heap.size b c) : Left a c B L M T M1 M2 v ds ss := ⟨h.look.below k, h.turns.trans (.of_below k)⟩
theorem LookW.left {w : World} {B L M T M1 M2 : Nat} {v : Value} {ds : List Nd} {ss : List Sc} (h : LookW w B L M T M1 M2 v ds ss) : Left w w B L M T M1 M2 v ds ss := ⟨h, Turns.refl _ _ _⟩
/-- A row of one's own behind the map, when the map has turned. -/
theorem ownsRow_turned {w w' : World} {base n size M : Nat} {e : TypeId} {u : Value} {xs : List Value} {ss : List Sc} (h : w.ownsRow base e size u n xs) (ht : Turns w w' M M) (m : Memo w M ss) : w'.ownsRow base e size u n xs := by
  obtain ⟨h1, h2 | ⟨g, cap, cur, hv, hB, hh, r⟩⟩ := h
  · exact ⟨h1, .inl h2⟩
  · exact ⟨h1, .inr ⟨g, cap, cur, hv, hB, (ht.cellsM m).block g _ _ _ (Array.getElem?_eq_some_iff.1 hh).1 hh, r⟩⟩
set_option maxRecDepth 100000 in
theorem index_any (xs : List Int) (oa : Option Addr) (cap : Nat) (n : Int) (w : World) (hn : xs.length < 2 ^ 40) (h : HoldsInts w oa xs) :
    Calls Tryz.prog 141 #[.slice oa xs.length cap, .int .i64 n] w fun e w' => (∃ z : Int, e = .returned (.int .i64 z) ∧ (z ≥ 0 ↔ n ∈ xs)) ∧ Below w.heap.size w w' := by
  have K := Lib.hid h
  clear h
  go_enter Tryz.func141, Tryz.ntmps141
  go_wp2
  go_loopw [8] (fun i wr => ∃ k : Nat, i = .int .i64 k ∧ k ≤ xs.length ∧ Hid (n ∉ xs.take k) ∧ Below w.heap.size w wr) (fun i _ => xs.length - (intOf i).toNat)
  case atStart => exact ⟨0, rfl, Nat.zero_le _, Lib.hid (by simp), Below.refl _ _⟩
  case round =>
    obtain ⟨k, rfl, hk, hno, hb⟩ := hrel
    by_cases hlt : k < xs.length
    · obtain ⟨x, hx⟩ : ∃ x, xs[k]? = some x := ⟨_, List.getElem?_eq_getElem hlt⟩
      obtain ⟨b1, f1, rfl, hb1, q1⟩ := K.out.at (by omega)
      have a0 := (hb.cell (p := ⟨b1, f1 + k, none⟩) hb1).trans (q1 k x hx)
      have HX := Lib.hid hx
      clear hx q1
      by_cases he : n = x
      · have HM : Hid (n ∈ xs) := Lib.hid (by rw [he]; exact List.mem_of_getElem? HX.out)
        have hq : (n == x) = true := by simpa using he
        clear he
        go_wp2
        go_ret
        exact ⟨⟨_, rfl, by simp [HM.out]⟩, hb⟩
      · have HN : Hid (n ∉ xs.take (k + 1)) := Lib.hid (by
          rw [List.take_add_one, HX.out]
          simp only [Option.toList_some, List.mem_append, List.mem_singleton, not_or]
          exact ⟨hno.out, he⟩)
        have hq : (n == x) = false := by simpa using he
        clear he
        go_wp2
        go_roundw
        case rel => exact ⟨k + 1, by go_num, by omega, HN, hb⟩
        case measure => simp only [intOf]; omega
    · obtain rfl : k = xs.length := by omega
      have HN : Hid (n ∉ xs) := Lib.hid (by have := hno.out; rwa [List.take_length] at this)
      go_wp2
      go_ret
      exact ⟨⟨_, rfl, by simp [HN.out]⟩, hb⟩
set_option maxRecDepth 100000 in
theorem contains_any (xs : List Int) (oa : Option Addr) (cap : Nat) (n : Int) (w : World) (hn : xs.length < 2 ^ 40) (h : HoldsInts w oa xs) :
    Calls Tryz.prog 139 #[.slice oa xs.length cap, .int .i64 n] w fun e w' => e = .returned (.bool (decide (n ∈ xs))) ∧ Below w.heap.size w w' := by
  have C := Lib.hid (index_any xs oa cap n w hn h)
  clear h hn
  go_enter Tryz.func139, Tryz.ntmps139
  go_wp2_with fail
  refine C.out.mono ?_
  rintro e w1 ⟨⟨z, rfl, hz⟩, hb⟩
  have HB := Lib.hid hb
  have HZ : Hid (decide (z ≥ 0) = decide (n ∈ xs)) := Lib.hid (by simp only [hz])
  clear hb hz
  go_wp2
  go_ret
  exact ⟨by rw [← HZ.out]; rfl, HB.out⟩
end Go.Proofs.YtgehpaojbnpbcaaGreatDoor
namespace Go.Proofs.YtgehpaojbnpbcaaGreatDoor
open Go Go.RowKit Go.Maps
/-- What an item means. -/
def meanIt (ss : List Sc) (q : Nat × Nat × It) : List (Int × Int) :=
  if q.2.2.kind = 2 then (lookP ss q.1 q.2.2.name).places else if q.2.2.kind = 3 then meantP ss q.1 q.2.2.name else [((q.1 : Int), (q.2.1 : Int))]
/-- The scope of the module that a list has alone, or -1. -/
def aloneP (ss : List Sc) (l : List (Int × Int)) : Int := match l with
  | [p] => scopeAt ss p
  | _ => -1
theorem aloneP_not {ss : List Sc} {l : List (Int × Int)} (h : l.length ≠ 1) : aloneP ss l = -1 := by
  unfold aloneP
  split
  · exact absurd rfl h
  · rfl
theorem targetP_alone (ss : List Sc) (s : Nat) (nm : ByteArray) : targetP ss s nm = aloneP ss (meantP ss s nm) := by
  by_cases h : (meantP ss s nm).length = 1
  · obtain ⟨p, hp⟩ := List.length_eq_one_iff.1 h
    rw [targetP_one hp, hp]; rfl
  · rw [targetP_not h, aloneP_not h]
/-- The state of an item. -/
def stateIt (ss : List Sc) (q : Nat × Nat × It) : Int :=
  if (meanIt ss q).length = 0 then 2 else if 1 < (meanIt ss q).length then 3 else if q.2.2.kind = 3 ∧ aloneP ss (meanIt ss q) = -1 then 4 else 1
theorem meantP_short {ss : List Sc} (hv : Valid ss) (s : Nat) (nm : ByteArray) : (meantP ss s nm).length ≤ 25 := by
  unfold meantP meantF
  split
  · split
    · simp
    · exact lookF_length hv _ _
  · have := ownP_length hv s nm; omega
theorem meanIt_length {ss : List Sc} (hv : Valid ss) (q : Nat × Nat × It) : (meanIt ss q).length ≤ 25 := by
  unfold meanIt
  split
  · exact lookF_length hv _ _
  · split
    · exact meantP_short hv _ _
    · simp
theorem meanIt_isPlace {ss : List Sc} {q : Nat × Nat × It} (hq : q ∈ placed 0 ss) : ∀ p ∈ meanIt ss q, IsPlace ss p := by
  intro p hp
  unfold meanIt at hp
  split at hp
  · exact look_isPlace p hp
  · split at hp
    · exact meant_isPlace p hp
    · rw [List.mem_singleton] at hp
      obtain ⟨s, _, h1, h2⟩ := mem_placed.1 hq
      exact ⟨q.1, q.2.1, s, q.2.2, hp, by simpa using h1, h2⟩
theorem placed_at {ss : List Sc} {q : Nat × Nat × It} (hq : q ∈ placed 0 ss) : ∃ s, ss[q.1]? = some s ∧ s.items[q.2.1]? = some q.2.2 := by
  obtain ⟨s, _, h1, h2⟩ := mem_placed.1 hq
  exact ⟨s, by simpa using h1, h2⟩
theorem placed_of {ss : List Sc} {i j : Nat} {s : Sc} {x : It} (hs : ss[i]? = some s) (hx : s.items[j]? = some x) : (i, j, x) ∈ placed 0 ss := mem_placed.2 ⟨s, Nat.zero_le _, by simpa using hs, hx⟩
theorem placed_item {ss : List Sc} {q : Nat × Nat × It} (hq : q ∈ placed 0 ss) : itemAtP ss (q.1 : Int) (q.2.1 : Int) = some q.2.2 := by
  obtain ⟨s, h1, h2⟩ := placed_at hq
  rw [itemAtP_nat h1, h2]
/-- Where an item is at a place, it is among all. -/
theorem item_placed {ss : List Sc} {a b : Int} {x : It} (h : itemAtP ss a b = some x) : ∃ i j : Nat, a = (i : Int) ∧ b = (j : Int) ∧ (i, j, x) ∈ placed 0 ss := by
  unfold itemAtP at h
  split at h
  · rename_i h0
    cases hc : ss[a.toNat]? with
    | none => rw [hc] at h; cases h
    | some c =>
      rw [hc] at h
      exact ⟨a.toNat, b.toNat, by omega, by omega, placed_of hc h⟩
  · cases h
/-- How slices read, as elements of maps. -/
def sliceD (v : Value) : DataW Unit := match v with
  | .slice none n c => .agg [numD (n : Int), numD (c : Int)]
  | .slice (some ⟨b, o, none⟩) n c => .agg [numD (b : Int), numD (o : Int), numD (n : Int), numD (c : Int)]
  | _ => .agg []
def sliceR (v : Value) : Option (DataW Unit × List MemPlace) := match v with
  | .slice none n c => some (.agg [numD (n : Int), numD (c : Int)], [])
  | .slice (some ⟨b, o, none⟩) n c => some (.agg [numD (b : Int), numD (o : Int), numD (n : Int), numD (c : Int)], [])
  | _ => none
theorem sliceR_own {w : World} {B n : Nat} {e : TypeId} {size : Nat} {u : Value} {xs : List Value} (h : w.ownsRow B e size u n xs) : sliceR u = some (sliceD u, []) := by
  rcases h.2 with ⟨rfl, _⟩ | ⟨g, cap, cur, rfl, _⟩ <;> rfl
theorem sliceR_eq {u v : Value} {ps : List MemPlace} (hu : sliceR u = some (sliceD u, [])) (h : sliceR v = some (sliceD u, ps)) : v = u := by
  unfold sliceR at h
  split at h
  · rename_i n c
    unfold sliceR at hu
    split at hu
    · rename_i n' c'
      simp [sliceD, numD] at h
      obtain ⟨⟨h1, h2⟩, _⟩ := h
      obtain rfl : n = n' := by omega
      obtain rfl : c = c' := by omega
      rfl
    · simp [sliceD] at h
    · cases hu
  · rename_i b o n c
    unfold sliceR at hu
    split at hu
    · simp [sliceD] at h
    · rename_i b' o' n' c'
      simp [sliceD, numD] at h
      obtain ⟨⟨h1, h2, h3, h4⟩, _⟩ := h
      obtain rfl : b = b' := by omega
      obtain rfl : o = o' := by omega
      obtain rfl : n = n' := by omega
      obtain rfl : c = c' := by omega
      rfl
    · cases hu
  · cases h
theorem zeroSlice (w : World) : (zeroValue 36).run Tryz.prog w = .ok (.slice none 0 0) w := by kernel_rfl
/-- The meanings of some items, each a list of its own. -/
abbrev Ent := (Nat × Nat × It) × Value
def entKey (e : Ent) : Lit := plKey e.1
def entVal (e : Ent) : DataW Unit := sliceD e.2
theorem entKey_is (e : Ent) : WideAt.IsKeyLit (entKey e) := trivial
def entsD (l : List Ent) : DataW Unit := putInto entKey entVal (.map []) l
structure MeanW (w : World) (B MR : Nat) (ss : List Sc) (l : List Ent) : Prop where
  map : w.ownsMap Tryz.prog 59 sliceR MR l.length (entsD l)
  lists : ∀ e ∈ l, w.ownsRow B 59 2 e.2 (meanIt ss e.1).length (placeCells (meanIt ss e.1))
theorem ownsRow_cells {w w' : World} {B n size : Nat} {e : TypeId} {u : Value} {xs : List Value} (h : w.ownsRow B e size u n xs) (hk : CellsKept w.heap.size w w') : w'.ownsRow B e size u n xs := by
  obtain ⟨h1, h2 | ⟨g, cap, cur, hv, hB, hh, r⟩⟩ := h
  · exact ⟨h1, .inl h2⟩
  · exact ⟨h1, .inr ⟨g, cap, cur, hv, hB, hk.block g _ _ _ (Array.getElem?_eq_some_iff.1 hh).1 hh, r⟩⟩
theorem ownsMap_same {w w' : World} {k : TypeId} {R : Value → Option (DataW Unit × List MemPlace)} {M n : Nat} {D : DataW Unit} (h : w.ownsMap Tryz.prog k R M n D) (hs : w'.heap[M]? = w.heap[M]?) : w'.ownsMap Tryz.prog k R M n D := by
  obtain ⟨es, clock, hh, r⟩ := h
  exact ⟨es, clock, hs.trans hh, r⟩
theorem MeanW.lt {w : World} {B MR : Nat} {ss : List Sc} {l : List Ent} (h : MeanW w B MR ss l) : MR < w.heap.size := by
  obtain ⟨es, clock, hh, _⟩ := h.map
  exact (Array.getElem?_eq_some_iff.1 hh).1
theorem MeanW.kept {w w' : World} {B MR : Nat} {ss : List Sc} {l : List Ent} (h : MeanW w B MR ss l) (hk : CellsKept w.heap.size w w') (hs : w'.heap[MR]? = w.heap[MR]?) : MeanW w' B MR ss l :=
  ⟨ownsMap_same h.map hs, fun e he => ownsRow_cells (h.lists e he) hk⟩
theorem MeanW.below {w w' : World} {B MR : Nat} {ss : List Sc} {l : List Ent} (h : MeanW w B MR ss l) (hb : Below w.heap.size w w') : MeanW w' B MR ss l :=
  h.kept (.of_below hb) (hb.block _ h.lt)
theorem MeanW.lower {w : World} {B B' MR : Nat} {ss : List Sc} {l : List Ent} (h : MeanW w B MR ss l) (hB : B' ≤ B) : MeanW w B' MR ss l := ⟨h.map, fun e he => ownsRow_lower (h.lists e he) hB⟩
/-- A meaning more. -/
theorem mean_put {w : World} {B MR : Nat} {ss : List Sc} {l : List Ent} (hv : Valid ss) (h : MeanW w B MR ss l) (hl : l.length < 1000) {i j : Nat} {x : It} (hq : (i, j, x) ∈ placed 0 ss) {u : Value} (hu : w.ownsRow B 59 2 u (meanIt ss (i, j, x)).length (placeCells (meanIt ss (i, j, x)))) :
    ∃ w', (Instr.mapUpdate 125 (.map (some MR)) (.agg #[.int .i64 (i : Int), .int .i64 (j : Int)]) u).run Tryz.prog w = .ok () w' ∧ MeanW w' B MR ss (l ++ [((i, j, x), u)]) ∧ w.grownBy w' (some MR) := by
  have hlt := hv.small.lt hq
  obtain ⟨w', hrun, hown, hg⟩ := h.map.update (t := 125) (e := 36) placeLaw Tryz.underlying125 (by unfold maxLen; omega) (pl_key (a := (i : Int)) (b := (j : Int)) (wf_small hlt.1) (wf_small hlt.2)) (sliceR_own hu)
  have hck : CellsKept w.heap.size w w' := ⟨hg.size, fun g vs t fr _ hh => by
    refine (hg.block g (Array.getElem?_eq_some_iff.1 hh).1 (fun e => ?_)).trans hh
    cases e
    obtain ⟨es, clock, h1, _⟩ := h.map
    rw [h1] at hh; cases hh⟩
  refine ⟨w', hrun, ⟨?_, fun e he => ?_⟩, hg⟩
  · rw [List.length_append]
    unfold entsD
    rw [putInto_snoc]
    exact hown
  · rcases List.mem_append.1 he with h1 | h1
    · exact ownsRow_cells (h.lists e h1) hck
    · rw [List.mem_singleton] at h1
      subst h1
      exact ownsRow_cells hu hck
theorem entKeys {l : List Ent} : l.map entKey = (l.map Prod.fst).map plKey := by rw [List.map_map]; rfl
/-- What the meanings of all items answer at a place. -/
theorem mean_look {w : World} {B MR : Nat} {ss : List Sc} {l : List Ent} (hv : Valid ss) (h : MeanW w B MR ss l) (hf : l.map Prod.fst = placed 0 ss) {a b : Int} (ha : (Lit.int .i64 a).wf = true) (hb : (Lit.int .i64 b).wf = true) :
    ∃ u, (Instr.lookup 125 (.map (some MR)) (.agg #[.int .i64 a, .int .i64 b]) true).run Tryz.prog w = .ok (.tuple #[u, .bool (itemAtP ss a b).isSome]) w ∧
      (Instr.lookup 125 (.map (some MR)) (.agg #[.int .i64 a, .int .i64 b]) false).run Tryz.prog w = .ok u w ∧
      ((itemAtP ss a b = none ∧ u = .slice none 0 0) ∨ ∃ i j x, a = (i : Nat) ∧ b = (j : Nat) ∧ itemAtP ss a b = some x ∧ (i, j, x) ∈ placed 0 ss ∧ w.ownsRow B 59 2 u (meanIt ss (i, j, x)).length (placeCells (meanIt ss (i, j, x)))) := by
  have hD : Maps.has (entsD l) (plLit a b) = (itemAtP ss a b).isSome := by
    rw [← (look_item hv.small ha hb).1]
    have e1 := putInto_has entKey entVal entKey_is (plLit a b) l (.map []) nilMap
    have e2 := putInto_has plKey itVal plKey_is (plLit a b) (placed 0 ss) (.map []) nilMap
    have e3 : (∃ x ∈ l, entKey x = plLit a b) ↔ ∃ x ∈ placed 0 ss, plKey x = plLit a b := by
      rw [← hf]
      constructor
      · rintro ⟨e, he, hk⟩; exact ⟨e.1, List.mem_map_of_mem he, hk⟩
      · rintro ⟨q, hq, hk⟩
        obtain ⟨e, he, rfl⟩ := List.mem_map.1 hq
        exact ⟨e, he, hk⟩
    rw [e3] at e1
    exact Bool.eq_iff_iff.2 (e1.trans e2.symm)
  obtain ⟨v1, ps1, hrun1, hv1⟩ := h.map.look_ok (t := 125) (e := 36) placeLaw Tryz.underlying125 (zeroSlice _) (by rfl) (pl_key ha hb)
  obtain ⟨v2, ps2, hrun2, hv2⟩ := h.map.lookup (t := 125) (e := 36) placeLaw Tryz.underlying125 (zeroSlice _) (by rfl) (pl_key ha hb)
  rw [hD] at hrun1
  cases hx : itemAtP ss a b with
  | none =>
    have hz : sliceR (.slice none 0 0) = some (sliceD (.slice none 0 0), []) := rfl
    have e0 : (entsD l).atKey (plLit a b) (sliceD (.slice none 0 0)) = sliceD (.slice none 0 0) := Maps.atKey_of_not_has (by rw [hD, hx]; rfl) _
    obtain rfl := sliceR_eq hz (e0 ▸ hv1)
    obtain rfl := sliceR_eq hz (e0 ▸ hv2)
    refine ⟨_, ?_, hrun2, .inl ⟨rfl, rfl⟩⟩
    rw [hx] at hrun1
    exact hrun1
  | some x =>
    obtain ⟨i, j, rfl, rfl, hq⟩ := item_placed hx
    obtain ⟨e, he, hqe⟩ := List.mem_map.1 (hf ▸ hq)
    have e0 := putInto_at entKey entVal entKey_is (sliceD (.slice none 0 0)) l (.map []) nilMap (by rw [entKeys, hf]; exact plKey_apart hv.small) e he
    have ek : entKey e = plLit (i : Int) (j : Int) := by unfold entKey; rw [hqe]; rfl
    rw [ek] at e0
    have hl := h.lists e he
    have e0' : (entsD l).atKey (plLit (i : Int) (j : Int)) (sliceD (.slice none 0 0)) = sliceD e.2 := e0
    obtain rfl := sliceR_eq (sliceR_own hl) (e0' ▸ hv1)
    obtain rfl := sliceR_eq (sliceR_own hl) (e0' ▸ hv2)
    rw [hqe] at hl
    refine ⟨_, ?_, hrun2, .inr ⟨i, j, x, rfl, rfl, rfl, hq, hl⟩⟩
    rw [hx] at hrun1
    exact hrun1
/-- A resolution. -/
structure ResW (w : World) (B R T M1 M2 MR : Nat) (v : Value) (ds : List Nd) (ss : List Sc) (l : List Ent) : Prop where
  tree : TreeIs w B T M1 M2 v ds ss
  box : Row w R 127 [.pointer (some ⟨T, 0, none⟩), .map (some MR)]
  mean : MeanW w B MR ss l
  full : l.map Prod.fst = placed 0 ss
theorem ResW.below {w w' : World} {B R T M1 M2 MR : Nat} {v : Value} {ds : List Nd} {ss : List Sc} {l : List Ent} (h : ResW w B R T M1 M2 MR v ds ss l) (hb : Below w.heap.size w w') : ResW w' B R T M1 M2 MR v ds ss l :=
  ⟨h.tree.below hb, h.box.below hb h.box.lt, h.mean.below hb, h.full⟩
end Go.Proofs.YtgehpaojbnpbcaaGreatDoor
namespace Go.Proofs.YtgehpaojbnpbcaaGreatDoor
open Go Go.RowKit
/-- Which name an item at a place has then, by the name that it has. -/
abbrev NameF := Nat → Nat → ByteArray → ByteArray
def renIt (f : NameF) (i j : Nat) (x : It) : It := ⟨x.kind, f i j x.name, x.scope⟩
def renSc (f : NameF) (i : Nat) (s : Sc) : Sc := ⟨s.parent, s.items.mapIdx (renIt f i)⟩
def renP (ss : List Sc) (f : NameF) : List Sc := ss.mapIdx (renSc f)
theorem renP_length (ss : List Sc) (f : NameF) : (renP ss f).length = ss.length := by simp [renP]
theorem renP_get (ss : List Sc) (f : NameF) (i : Nat) : (renP ss f)[i]? = (ss[i]?).map (renSc f i) := by simp [renP]
theorem renSc_length (f : NameF) (i : Nat) (s : Sc) : (renSc f i s).items.length = s.items.length := by simp [renSc]
theorem renSc_get (f : NameF) (i : Nat) (s : Sc) (j : Nat) : (renSc f i s).items[j]? = (s.items[j]?).map (renIt f i j) := by simp [renSc]
theorem ren_parent (ss : List Sc) (f : NameF) (i : Nat) : (renP ss f)[i]?.map Sc.parent = ss[i]?.map Sc.parent := by
  rw [renP_get]
  cases ss[i]? <;> rfl
theorem placed_ren {ss : List Sc} {f : NameF} {i j : Nat} {x : It} (h : (i, j, x) ∈ placed 0 ss) : (i, j, renIt f i j x) ∈ placed 0 (renP ss f) := by
  obtain ⟨s, h1, h2⟩ := placed_at h
  dsimp only at h1 h2
  refine placed_of (s := renSc f i s) (by rw [renP_get, h1]; rfl) (by rw [renSc_get, h2]; rfl)
theorem placed_unren {ss : List Sc} {f : NameF} {i j : Nat} {y : It} (h : (i, j, y) ∈ placed 0 (renP ss f)) : ∃ x, (i, j, x) ∈ placed 0 ss ∧ y = renIt f i j x := by
  obtain ⟨s, h1, h2⟩ := placed_at h
  dsimp only at h1 h2
  rw [renP_get] at h1
  cases hs : ss[i]? with
  | none => rw [hs] at h1; cases h1
  | some t =>
    rw [hs] at h1
    simp only [Option.map_some, Option.some.injEq] at h1
    subst h1
    rw [renSc_get] at h2
    cases hx : t.items[j]? with
    | none => rw [hx] at h2; cases h2
    | some x =>
      rw [hx] at h2
      simp only [Option.map_some, Option.some.injEq] at h2
      exact ⟨x, placed_of hs hx, h2.symm⟩
/-- All items in order, with other names. -/
theorem placed_renFrom (f : NameF) : ∀ (ss : List Sc) (i : Nat), placed i (ss.mapIdx fun k s => renSc f (i + k) s) = (placed i ss).map fun q => (q.1, q.2.1, renIt f q.1 q.2.1 q.2.2)
  | [], i => by simp [placed]
  | s :: r, i => by
    have ih := placed_renFrom f r (i + 1)
    rw [List.mapIdx_cons]
    show (renSc f (i + 0) s).items.zipIdx.map (fun p => (i, p.2, p.1)) ++ placed (i + 1) (r.mapIdx fun k s => renSc f (i + (k + 1)) s) = (s.items.zipIdx.map (fun p => (i, p.2, p.1)) ++ placed (i + 1) r).map _
    rw [List.map_append, show (fun (k : Nat) (s : Sc) => renSc f (i + (k + 1)) s) = (fun k s => renSc f (i + 1 + k) s) from by funext k s; rw [show i + (k + 1) = i + 1 + k by omega], ih]
    congr 1
    refine List.ext_getElem? fun n => ?_
    simp [renSc]
    cases s.items[n]? <;> rfl
theorem placed_renP (ss : List Sc) (f : NameF) : placed 0 (renP ss f) = (placed 0 ss).map fun q => (q.1, q.2.1, renIt f q.1 q.2.1 q.2.2) := by
  have h := placed_renFrom f ss 0
  rw [show (fun (k : Nat) (s : Sc) => renSc f (0 + k) s) = renSc f from by funext k s; rw [Nat.zero_add]] at h
  exact h
theorem ren_modB (ss : List Sc) (f : NameF) (i a b : Nat) (x : It) : modB (renP ss f) i (renIt f a b x) = modB ss i x := by
  unfold modB
  rw [renP_length, ren_parent]
  rfl
theorem ren_mods (f : NameF) : ∀ l : List (Nat × Nat × It), modsOf (l.map fun q => renIt f q.1 q.2.1 q.2.2) = modsOf (l.map fun q => q.2.2)
  | [] => rfl
  | q :: r => by
    have ih := ren_mods f r
    unfold modsOf at ih ⊢
    rw [List.map_cons, List.map_cons, List.filter_cons, List.filter_cons]
    by_cases h : (q.2.2.scope != -1) = true
    · rw [if_pos h, if_pos (show ((renIt f q.1 q.2.1 q.2.2).scope != -1) = true from h), List.map_cons, List.map_cons, ih]; rfl
    · rw [if_neg h, if_neg (show ¬ ((renIt f q.1 q.2.1 q.2.2).scope != -1) = true from h), ih]
theorem Valid.ren {ss : List Sc} (h : Valid ss) {f : NameF} (hf : ∀ i j x, (i, j, x) ∈ placed 0 ss → nameB (f i j x.name) = true) : Valid (renP ss f) where
  count := by rw [renP_length]; exact h.count
  scopes := fun i t ht => by
    rw [renP_get] at ht
    cases hs : ss[i]? with
    | none => rw [hs] at ht; cases ht
    | some s =>
      rw [hs] at ht
      simp only [Option.map_some, Option.some.injEq] at ht
      subst ht
      have h1 := h.scopes i s hs
      unfold scopeB at h1 ⊢
      rw [renSc_length]
      exact h1
  items := by
    have h3 := h.items
    rw [← placed_flat, placed_renP]
    rw [← placed_flat] at h3
    refine ⟨fun q hq => ?_, ?_⟩
    · rw [List.map_map] at hq
      obtain ⟨p, hp, rfl⟩ := List.mem_map.1 hq
      have h4 := h3.1 (p.1, p.2.2) (List.mem_map_of_mem hp)
      refine ⟨?_, ?_⟩
      · have h5 := h4.1
        have h6 := hf p.1 p.2.1 p.2.2 hp
        unfold itemB at h5 ⊢
        simp only [Bool.and_eq_true] at h5 ⊢
        exact ⟨⟨h6, h5.1.2⟩, h5.2⟩
      · have h5 := h4.2
        show modB (renP ss f) p.1 (renIt f p.1 p.2.1 p.2.2) = true
        rw [ren_modB]
        exact h5
    · have h4 := h3.2
      rw [List.map_map, List.map_map]
      rw [List.map_map] at h4
      have h5 := ren_mods f (placed 0 ss)
      exact (show modsOf ((placed 0 ss).map fun q => renIt f q.1 q.2.1 q.2.2) = _ from h5) ▸ h4
/-- A fair graph with other names is fair, where these are not too long. -/
theorem FitsScopes.ren {ss : List Sc} (h : FitsScopes ss) {f : NameF} (hf : ∀ i j s x, ss[i]? = some s → s.items[j]? = some x → (f i j x.name).size ≤ 2 ^ 63 - 1) : FitsScopes (renP ss f) := by
  refine ⟨by rw [renP_length]; exact h.1, fun t ht => ?_⟩
  obtain ⟨i, hi⟩ := List.mem_iff_getElem?.1 ht
  rw [renP_get] at hi
  cases hs : ss[i]? with
  | none => rw [hs] at hi; cases hi
  | some s =>
    rw [hs] at hi
    simp only [Option.map_some, Option.some.injEq] at hi
    subst hi
    have h3 := h.2 s (List.mem_of_getElem? hs)
    refine ⟨by rw [renSc_length]; exact h3.1, fun y hy => ?_⟩
    obtain ⟨j, hj⟩ := List.mem_iff_getElem?.1 hy
    rw [renSc_get] at hj
    cases hx : s.items[j]? with
    | none => rw [hx] at hj; cases hj
    | some x =>
      rw [hx] at hj
      simp only [Option.map_some, Option.some.injEq] at hj
      subst hj
      exact hf i j s x hs hx
theorem I64Scopes.ren {ss : List Sc} (h : I64Scopes ss) (f : NameF) : I64Scopes (renP ss f) := by
  intro t ht
  obtain ⟨i, hi⟩ := List.mem_iff_getElem?.1 ht
  rw [renP_get] at hi
  cases hs : ss[i]? with
  | none => rw [hs] at hi; cases hi
  | some s =>
    rw [hs] at hi
    simp only [Option.map_some, Option.some.injEq] at hi
    subst hi
    have h3 := h s (List.mem_of_getElem? hs)
    refine ⟨h3.1, fun y hy => ?_⟩
    obtain ⟨j, hj⟩ := List.mem_iff_getElem?.1 hy
    rw [renSc_get] at hj
    cases hx : s.items[j]? with
    | none => rw [hx] at hj; cases hj
    | some x =>
      rw [hx] at hj
      simp only [Option.map_some, Option.some.injEq] at hj
      subst hj
      exact h3.2 x (List.mem_of_getElem? hx)
theorem items_ren {n : Nat} {ss : List Sc} (h : ∀ s ∈ ss, s.items.length ≤ n) (f : NameF) : ∀ s ∈ renP ss f, s.items.length ≤ n := by
  intro t ht
  obtain ⟨i, hi⟩ := List.mem_iff_getElem?.1 ht
  rw [renP_get] at hi
  cases hs : ss[i]? with
  | none => rw [hs] at hi; cases hi
  | some s =>
    rw [hs] at hi
    simp only [Option.map_some, Option.some.injEq] at hi
    subst hi
    rw [renSc_length]
    exact h s (List.mem_of_getElem? hs)
/-- Two renamings that give all items the same names give the same graph. -/
theorem renP_congr {ss : List Sc} {f g : NameF} (h : ∀ i j s x, ss[i]? = some s → s.items[j]? = some x → f i j x.name = g i j x.name) : renP ss f = renP ss g := by
  refine List.ext_getElem? fun i => ?_
  rw [renP_get, renP_get]
  cases hs : ss[i]? with
  | none => rfl
  | some s =>
    simp only [Option.map_some, Option.some.injEq]
    unfold renSc
    congr 1
    refine List.ext_getElem? fun j => ?_
    rw [List.getElem?_mapIdx, List.getElem?_mapIdx]
    cases hx : s.items[j]? with
    | none => rfl
    | some x =>
      simp only [Option.map_some, Option.some.injEq]
      unfold renIt
      rw [h i j s x hs hx]
theorem renP_id (ss : List Sc) : renP ss (fun _ _ n => n) = ss := by
  refine List.ext_getElem? fun i => ?_
  rw [renP_get]
  cases hs : ss[i]? with
  | none => rfl
  | some s =>
    simp only [Option.map_some, Option.some.injEq]
    unfold renSc
    obtain ⟨p, l⟩ := s
    simp only [Sc.mk.injEq, true_and]
    refine List.ext_getElem? fun j => ?_
    rw [List.getElem?_mapIdx]
    cases l[j]? <;> rfl
theorem renP_comp (ss : List Sc) (f g : NameF) : renP (renP ss f) g = renP ss fun i j n => g i j (f i j n) := by
  refine List.ext_getElem? fun i => ?_
  rw [renP_get, renP_get, renP_get]
  cases hs : ss[i]? with
  | none => rfl
  | some s =>
    simp only [Option.map_some, Option.some.injEq]
    unfold renSc
    simp only [Sc.mk.injEq, true_and]
    refine List.ext_getElem? fun j => ?_
    rw [List.getElem?_mapIdx, List.getElem?_mapIdx, List.getElem?_mapIdx]
    cases s.items[j]? <;> rfl
/-- The renaming of one item. -/
def nmAt (a b : Nat) (nm : ByteArray) : NameF := fun i j n => if i = a ∧ j = b then nm else n
/-- A renaming of the items ahead of one alone. -/
def uptoF (f : NameF) (s k : Nat) : NameF := fun i j n => if i < s ∨ (i = s ∧ j < k) then f i j n else n
theorem uptoF_start (ss : List Sc) (f : NameF) : renP ss (uptoF f 0 0) = ss := by
  rw [show uptoF f 0 0 = fun _ _ n => n from by funext i j n; unfold uptoF; rw [if_neg (by omega)], renP_id]
theorem uptoF_step {ss : List Sc} (f : NameF) {s k : Nat} {c : Sc} {x : It} (hc : ss[s]? = some c) (hx : c.items[k]? = some x) : renP (renP ss (uptoF f s k)) (nmAt s k (f s k x.name)) = renP ss (uptoF f s (k + 1)) := by
  rw [renP_comp]
  refine renP_congr fun i j d y hd hy => ?_
  unfold nmAt uptoF
  by_cases h1 : i = s ∧ j = k
  · obtain ⟨rfl, rfl⟩ := h1
    rw [hc] at hd
    obtain rfl := Option.some.inj hd
    rw [hx] at hy
    obtain rfl := Option.some.inj hy
    rw [if_pos ⟨rfl, rfl⟩, if_pos (Or.inr ⟨rfl, by omega⟩)]
  · rw [if_neg h1]
    by_cases h2 : i < s ∨ (i = s ∧ j < k)
    · rw [if_pos h2, if_pos (show i < s ∨ (i = s ∧ j < k + 1) by omega)]
    · rw [if_neg h2, if_neg (show ¬ (i < s ∨ (i = s ∧ j < k + 1)) by omega)]
theorem uptoF_get {ss : List Sc} (f : NameF) {s k : Nat} {c : Sc} {x : It} (hc : ss[s]? = some c) (hx : c.items[k]? = some x) : ∃ d, (renP ss (uptoF f s k))[s]? = some d ∧ d.items.length = c.items.length ∧ d.items[k]? = some x := by
  refine ⟨renSc (uptoF f s k) s c, by rw [renP_get, hc]; rfl, renSc_length _ _ _, ?_⟩
  rw [renSc_get, hx]
  show some (renIt _ _ _ _) = _
  unfold renIt uptoF
  rw [if_neg (by omega)]
theorem uptoF_scope {ss : List Sc} (f : NameF) {s : Nat} {c : Sc} (hc : ss[s]? = some c) : renP ss (uptoF f s c.items.length) = renP ss (uptoF f (s + 1) 0) := by
  refine renP_congr fun i j d y hd hy => ?_
  unfold uptoF
  by_cases h1 : i = s
  · subst h1
    rw [hc] at hd
    obtain rfl := Option.some.inj hd
    have hj := (List.getElem?_eq_some_iff.1 hy).1
    rw [if_pos (Or.inr ⟨rfl, hj⟩), if_pos (Or.inl (by omega))]
  · by_cases h2 : i < s
    · rw [if_pos (Or.inl h2), if_pos (Or.inl (by omega))]
    · rw [if_neg (show ¬ (i < s ∨ (i = s ∧ j < c.items.length)) by omega), if_neg (show ¬ (i < s + 1 ∨ (i = s + 1 ∧ j < 0)) by omega)]
theorem uptoF_all (ss : List Sc) (f : NameF) : renP ss (uptoF f ss.length 0) = renP ss f := by
  refine renP_congr fun i j d y hd hy => ?_
  unfold uptoF
  rw [if_pos (Or.inl (List.getElem?_eq_some_iff.1 hd).1)]
end Go.Proofs.YtgehpaojbnpbcaaGreatDoor
namespace Go.Proofs.YtgehpaojbnpbcaaGreatDoor
open Go Go.RowKit
/-- Items of which one has another name. -/
def nmL : List It → Nat → ByteArray → List It
  | [], _, _ => []
  | x :: r, 0, nm => ⟨x.kind, nm, x.scope⟩ :: r
  | x :: r, j + 1, nm => x :: nmL r j nm
theorem nmL_get : ∀ (xs : List It) (j : Nat) (nm : ByteArray) (k : Nat), (nmL xs j nm)[k]? = (xs[k]?).map fun x => if k = j then ⟨x.kind, nm, x.scope⟩ else x
  | [], j, nm, k => by simp [nmL]
  | x :: r, 0, nm, 0 => by simp [nmL]
  | x :: r, 0, nm, k + 1 => by simp [nmL]
  | x :: r, j + 1, nm, 0 => by simp [nmL]
  | x :: r, j + 1, nm, k + 1 => by simp [nmL, nmL_get r j nm k]
theorem nmL_cells : ∀ (xs : List It) (j : Nat) (nm : ByteArray), j < xs.length → (itemCells xs).set (j * 3 + 1) (.string nm) = itemCells (nmL xs j nm)
  | [], j, nm, h => absurd h (Nat.not_lt_zero j)
  | x :: r, 0, nm, _ => rfl
  | x :: r, j + 1, nm, h => by
    have ih := nmL_cells r j nm (by simpa using h)
    rw [show (j + 1) * 3 + 1 = j * 3 + 1 + 1 + 1 + 1 by omega]
    show Value.int .i64 x.kind :: .string x.name :: .int .i64 x.scope :: (itemCells r).set (j * 3 + 1) (.string nm) = _
    rw [ih]
    rfl
theorem renSc_nmL (a b : Nat) (nm : ByteArray) (s : Sc) : (renSc (nmAt a b nm) a s).items = nmL s.items b nm := by
  refine List.ext_getElem? fun k => ?_
  rw [renSc_get, nmL_get]
  cases s.items[k]? with
  | none => rfl
  | some x =>
    simp only [Option.map_some, Option.some.injEq]
    unfold renIt nmAt
    by_cases h : k = b
    · rw [if_pos ⟨rfl, h⟩, if_pos h]
    · rw [if_neg (fun e => h e.2), if_neg h]
theorem renP_other (us : List Sc) (a b : Nat) (nm : ByteArray) {k : Nat} (hk : k ≠ a) : (renP us (nmAt a b nm))[k]? = us[k]? := by
  rw [renP_get]
  cases us[k]? with
  | none => rfl
  | some s =>
    simp only [Option.map_some, Option.some.injEq]
    obtain ⟨p, l⟩ := s
    unfold renSc
    simp only [Sc.mk.injEq, true_and]
    refine List.ext_getElem? fun j => ?_
    rw [List.getElem?_mapIdx]
    cases l[j]? with
    | none => rfl
    | some x =>
      simp only [Option.map_some, Option.some.injEq]
      unfold renIt nmAt
      rw [if_neg (fun e => hk e.1)]
theorem grown_setCell (w : World) (a : Addr) (u : Value) : w.grownBy (w.setCell a u) (some a.block) :=
  ⟨rfl, rfl, rfl, by simp, fun k _ hne => Below.heap_setCell w a u k (fun e => hne (by rw [e]))⟩
theorem set_same {α : Type} {l : List α} {i : Nat} {u : α} (h : l[i]? = some u) : l.set i u = l := by
  obtain ⟨h1, h2⟩ := List.getElem?_eq_some_iff.1 h
  subst h2
  exact List.set_getElem_self h1
/-- A graph of the call's own, when the items of one scope have turned in their row. -/
theorem OwnGr.turn {w w1 : World} {B g cap i : Nat} {ss tt : List Sc} {hs : List Value} {s t : Sc} {u : Value} (h : OwnGr w B (.slice (some ⟨g, 0, none⟩) ss.length cap) ss hs) (hs' : ss[i]? = some s) (hu : hs[i]? = some u)
    (hg : w.grownBy w1 u.ownBlock) (hown : w1.ownsRow B 137 3 u t.items.length (itemCells t.items))
    (hl : tt.length = ss.length) (hp : ∀ k : Nat, (tt[k]?).map Sc.parent = (ss[k]?).map Sc.parent) (ht : tt[i]? = some t) (hoth : ∀ k, k ≠ i → tt[k]? = ss[k]?) :
    OwnGr w1 B (.slice (some ⟨g, 0, none⟩) tt.length cap) tt hs := by
  have hil := (List.getElem?_eq_some_iff.1 hs').1
  have hrow1 := ownsRow_apart h.row hg (owns_types_apart h.row (h.items i s u hs' hu) (by decide))
  have hsc : scRow tt hs = scRow ss hs := by
    have h1 := scRow_put (tt := tt) i u h.len hl hp hil
    rw [set_same hu, set_same (scRow_at hs' hu).2] at h1
    exact h1
  refine ⟨by rw [hl]; exact h.len, by rw [hl, hsc]; exact hrow1, fun k t' z ht' hz => ?_, h.apart⟩
  by_cases hk : k = i
  · subst hk
    rw [hu] at hz
    obtain rfl := Option.some.inj hz
    rw [ht] at ht'
    obtain rfl := Option.some.inj ht'
    exact hown
  · rw [hoth k hk] at ht'
    exact ownsRow_apart (h.items k t' z ht' hz) hg (h.apart k i z u hk hz hu)
/-- A graph in a box, when one item has got another name. -/
theorem GrIn.name {w : World} {B g gs cs : Nat} {us : List Sc} {hs : List Value} (h : GrIn w B g gs cs us hs) {i j gi ci : Nat} {s : Sc} {x : It} (hs' : us[i]? = some s) (hx : s.items[j]? = some x) (hu : hs[i]? = some (.slice (some ⟨gi, 0, none⟩) s.items.length ci)) (nm : ByteArray) :
    GrIn (w.setCell ⟨gi, j * 3 + 1, none⟩ (.string nm)) B g gs cs (renP us (nmAt i j nm)) hs := by
  have hjl := (List.getElem?_eq_some_iff.1 hx).1
  have hne := h.apartB hs' hu
  have ht : (renP us (nmAt i j nm))[i]? = some (renSc (nmAt i j nm) i s) := by rw [renP_get, hs']; rfl
  have hown := h.own.items i s _ hs' hu
  refine ⟨?_, ?_⟩
  · rw [renP_length]
    exact h.row.other (a := ⟨gi, j * 3 + 1, none⟩) (fun e => hne (by rw [← e]; rfl)) _
  · refine OwnGr.turn (t := renSc (nmAt i j nm) i s) h.own hs' hu (grown_setCell w _ _) ?_ (renP_length _ _) (ren_parent us _) ht (fun k hk => renP_other us i j nm hk)
    rw [renSc_length, renSc_nmL, ← nmL_cells _ _ _ hjl]
    exact ownsRow_set hown (by rw [itemCells_length]; omega) _
/-- Where the name of an item lies. -/
theorem GrIn.nameAt {w : World} {B g gs cs : Nat} {us : List Sc} {hs : List Value} (h : GrIn w B g gs cs us hs) {i j : Nat} {s : Sc} {x : It} (hs' : us[i]? = some s) (hx : s.items[j]? = some x) :
    ∃ gi ci, hs[i]? = some (.slice (some ⟨gi, 0, none⟩) s.items.length ci) ∧ B ≤ gi ∧ gi < w.heap.size ∧ w.cell? ⟨gs, i * 2 + 1, none⟩ = some (.slice (some ⟨gi, 0, none⟩) s.items.length ci) ∧ w.cell? ⟨gi, j * 3 + 1, none⟩ = some (.string x.name) ∧ w.frozen? ⟨gi, j * 3 + 1, none⟩ = false ∧ B ≤ gs ∧ gs < w.heap.size := by
  obtain ⟨u, hu, h1, h2, h3, h4⟩ := h.slot hs'
  have hjl := (List.getElem?_eq_some_iff.1 hx).1
  have hlt := h4.lt
  have hcc := fun g hg => h4.cells (g := g) hg
  obtain ⟨hl, h5 | ⟨gi, ci, cur, rfl, hB, hh, h6, h7, h8, h9⟩⟩ := h4
  · have := h5.2; omega
  · have hc : (itemCells s.items)[j * 3 + 1]? = some (.string x.name) := by
      have h10 := itemCells_drop s.items j
      have h11 : (itemCells s.items)[j * 3 + 1]? = (itemCells (s.items.drop j))[1]? := by rw [h10, List.getElem?_drop]
      rw [h11, List.drop_eq_getElem_cons hjl, itemCells_cons]
      rw [List.getElem?_eq_getElem hjl] at hx
      rw [Option.some.inj hx]
      rfl
    have h12 := hcc gi rfl _ _ hc
    rw [Addr.add_lit, Nat.zero_add] at h12
    exact ⟨gi, ci, hu, hB, (hlt gi rfl).2, h3, h12, by simp [World.frozen?, hh], h1, h2⟩
end Go.Proofs.YtgehpaojbnpbcaaGreatDoor
namespace Go.Proofs.YtgehpaojbnpbcaaGreatDoor
open Go Go.RowKit
def letterB (k : Nat) : ByteArray := ⟨#[UInt8.ofNat (97 + k)]⟩
theorem below26 {p : Nat → Prop} (h : ∀ k : Fin 26, p k.1) {k : Nat} (hk : k < 26) : p k := h ⟨k, hk⟩
theorem encode_letter {k : Nat} (hk : k < 26) : Utf8.encode ((97 + k : Nat) : Int) = letterB k :=
  below26 (p := fun k => Utf8.encode ((97 + k : Nat) : Int) = letterB k) (by decide +kernel) hk
end Go.Proofs.YtgehpaojbnpbcaaGreatDoor
namespace Go.Proofs.YtgehpaojbnpbcaaGreatDoor
open Go Go.RowKit Go.Maps
/-- Places appended to a row of places of one's own, as the operation runs it. -/
theorem append_places {W : World} {base k : Nat} {v u : Value} {xs : List Value} {ps : List (Int × Int)} {B : Nat} (hrow : W.ownsRow base 59 2 v k xs) (hu : W.ownsRow B 59 2 u ps.length (placeCells ps)) (hk : k + ps.length < 1000000) (hbase : base ≤ W.heap.size) (ty : TypeId) :
    ∃ v' w', (Builtin.append_ #[36, 36] ty #[v, u]).run Tryz.prog W = .ok v' w' ∧ w'.ownsRow base 59 2 v' (k + ps.length) (xs ++ placeCells ps) ∧ W.grownBy w' v.ownBlock := by
  obtain ⟨i0, hi, hz0, hz1, hz2⟩ := info_parts infoPl
  obtain ⟨hl, h2 | ⟨g, cap, cur, hv, hB, hh, hn, _, hs, ht⟩⟩ := hu
  · obtain ⟨rfl, h0⟩ := h2
    have hp := List.eq_nil_of_length_eq_zero h0
    subst hp
    refine ⟨v, W, run_append_owned_none W base 36 ty 59 i0 2 Tryz.underlying36 hi v k xs hrow, by simpa [placeCells] using hrow, ⟨rfl, rfl, rfl, Nat.le_refl _, fun _ _ _ => rfl⟩⟩
  · subst hv
    have hcells : ∀ (j : Nat) (q : Value), (placeCells ps)[j]? = some q → W.cell? ((⟨g, 0, none⟩ : Addr).add j) = some q := by
      intro j q hq
      have hjl := (List.getElem?_eq_some_iff.1 hq).1
      have h2 : (⟨g, 0, none⟩ : Addr).add j = ⟨g, j, none⟩ := by unfold Addr.add; split <;> simp_all
      rw [h2]
      rw [← ht, List.getElem?_take_of_lt (by omega)] at hq
      simp [World.cell?, hh]
      simpa using hq
    obtain ⟨v', w', hrun, h2, h3, _, _⟩ := run_append_own_at (P := Tryz.prog) W base 36 ty 59 i0 (.agg #[.int .i64 0, .int .i64 0]) 2 16 Tryz.underlying36 hi hz0 hz1 hz2 rfl (by decide) v k xs hrow ⟨g, 0, none⟩ ps.length cap (placeCells ps) hl hcells
      (by
        intro q hq
        unfold placeCells at hq
        obtain ⟨p, _, hp⟩ := List.mem_flatMap.1 hq
        simp only [List.mem_cons, List.mem_nil_iff, or_false] at hp
        rcases hp with rfl | rfl <;> rfl) (by unfold maxLen; omega) (by omega) hbase
    exact ⟨v', w', hrun, h2, h3⟩
/-- An append whose run is known. -/
theorem wpList_append_run {P : Program} {w : World} {ops : Array Oper} {rest : List Oper} {o : Oper} {a : Act} {Q : Exit → Act → World → Prop} (hgd : o.guard = none) (s x : Operand) (t : TypeId)
    (ho : o.op = .call { callee := .builtin .append, args := #[s, x], argTypes := #[t, t] }) {v' : Value} {w' : World} (hr : (Builtin.append_ #[t, t] o.type #[a.eval s, a.eval x]).run P w = .ok v' w')
    (h : wpList P ops Q rest (a.put o.dst v') w') : wpList P ops Q (o :: rest) a w :=
  wpList_plain hgd fun _ hK => by
    unfold Oper.wp execOp
    simp only [ho, resolve, invoke, builtin, Sem.run_bind, Sem.run_pure, Result.andThen_ok, List.map_toArray, List.map_cons, List.map_nil, hr]
    exact hK _ _ h
theorem placeCells_append (a b : List (Int × Int)) : placeCells (a ++ b) = placeCells a ++ placeCells b := by simp [placeCells]
theorem grown_below {W w' : World} {base k n size : Nat} {e : TypeId} {v : Value} {xs : List Value} (hrow : W.ownsRow base e size v k xs) (hg : W.grownBy w' v.ownBlock) (hb : n ≤ base) (hW : n ≤ W.heap.size) : Below n W w' := by
  refine (Below.refl n W).grown hg hW (fun r e => ?_)
  obtain ⟨_, h2 | ⟨g', cap, cur, hv, hB, _, _⟩⟩ := hrow
  · rw [h2.1] at e; simp [Value.ownBlock] at e
  · rw [hv] at e; simp only [Value.ownBlock, Option.some.injEq] at e; omega
set_option maxRecDepth 100000 in
set_option maxHeartbeats 1600000 in
theorem specFromBy_any (ss : List Sc) (hv : Valid ss) (oa : Option Addr) (cap : Nat) (l : List Nat) (hl : ∀ m ∈ l, m < ss.length) (hlen : l.length ≤ 6) (ol : Option Addr) (cl : Nat) (nm : ByteArray) (w : World) (hc : HoldsScopes w oa ss) (hi : HoldsInts w ol (natInts l)) :
    Calls Tryz.prog 133 #[.agg #[.slice oa ss.length cap], .slice ol (natInts l).length cl, .string nm] w (PlsGot (fromP ss l nm) w) := by
  have hb0 := ((Below.refl w.heap.size w).alloc (Nat.le_refl _) (.cells #[.slice oa ss.length cap] 28)).alloc (by simp) (.cells #[] 59)
  have hR0 := (Row.new w [.slice oa ss.length cap] 28).alloc (.cells #[] 59)
  have hown0 : ((w.alloc (.cells #[.slice oa ss.length cap] 28)).alloc (.cells #[] 59)).ownsRow w.heap.size 59 2 (.slice (some ⟨w.heap.size + 1, 0, none⟩) 0 0) 0 [] := by
    have h0 := World.ownsRow_made (base := w.heap.size) (e := 59) (size := 2) (w.alloc (.cells #[.slice oa ss.length cap] 28)) #[] 0 (by simp) (by unfold maxLen; omega) rfl
    rw [World.size_alloc] at h0
    exact h0
  have HP0 : Hid (PlsAt w ((w.alloc (.cells #[.slice oa ss.length cap] 28)).alloc (.cells #[] 59)) oa cap ss.length (.slice (some ⟨w.heap.size + 1, 0, none⟩) 0 0) []) := Lib.hid ⟨hR0, hown0, hb0⟩
  have HC := Lib.hid hc
  have HV := Lib.hid hv
  have HL := Lib.hid hl
  have HI := Lib.hid hi
  have HN : Hid ((natInts l).length = l.length) := Lib.hid (natInts_length l)
  have hn6 : (natInts l).length ≤ 6 := by rw [natInts_length]; exact hlen
  clear hv hc hl hi hlen hb0 hR0 hown0
  go_enter Tryz.func133, Tryz.ntmps133
  go_wp2
  go_loopw [7, 13] (fun v i wr => ∃ k : Nat, i = .int .i64 k ∧ k ≤ (natInts l).length ∧ Hid (PlsAt w wr oa cap ss.length v (fromP ss (l.take k) nm))) (fun _ i _ => (natInts l).length - (intOf i).toNat)
  case atStart => exact ⟨0, rfl, Nat.zero_le _, HP0⟩
  case round =>
    obtain ⟨k, rfl, hk, hP⟩ := hrel
    by_cases hlt : k < (natInts l).length
    · obtain ⟨x, hx⟩ : ∃ x, l[k]? = some x := ⟨_, List.getElem?_eq_getElem (by rw [HN.out] at hlt; exact hlt)⟩
      have hxi : (natInts l)[k]? = some (x : Int) := by unfold natInts; rw [List.getElem?_map, hx]; rfl
      obtain ⟨b1, f1, rfl, hb1, q1⟩ := HI.out.at (by omega)
      have a0 := (hP.out.below.cell (p := ⟨b1, f1 + k, none⟩) hb1).trans (q1 k _ hxi)
      have g0 := hP.out.box.cell (i := 0) (by rfl)
      have C2 := Lib.hid (specL3Own_any ss HV.out oa cap x (HL.out x (List.mem_of_getElem? hx)) nm _ (HC.out.below hP.out.below (Nat.le_refl _)))
      have HTK : Hid (fromP ss (l.take (k + 1)) nm = fromP ss (l.take k) nm ++ ownP ss x nm) := Lib.hid (by rw [List.take_add_one, hx]; exact fromP_snoc _ _ _ _)
      have hfl : (fromP ss (l.take k) nm).length ≤ 30 := by
        have h1 := fromP_length HV.out nm (l.take k)
        rw [List.length_take] at h1
        have h2 := HN.out
        omega
      have hol := ownP_length HV.out x nm
      have hbs := hP.out.below.size
      clear hx hxi q1
      go_wp2_with fail
      refine C2.out.mono ?_
      rintro e w2 ⟨u, rfl, hu, hb2⟩
      have HP2 := Lib.hid (hP.out.step hb2)
      obtain ⟨v', w3, hrun, hown', hgrow⟩ := append_places HP2.out.row hu (by omega) HP2.out.below.size 36
      have HP4 : Hid (PlsAt w w3 oa cap ss.length v' (fromP ss (l.take (k + 1)) nm)) := Lib.hid {
        box := HP2.out.box.grown hgrow (ownsRow_ne2 HP2.out.box (by decide) HP2.out.row)
        row := by rw [HTK.out, List.length_append, placeCells_append]; exact hown'
        below := HP2.out.below.trans (grown_below HP2.out.row hgrow (Nat.le_refl w.heap.size) HP2.out.below.size) }
      have HRUN := Lib.hid hrun
      clear hown' hgrow hu hb2 hrun
      go_wp2_with (at_builtin; refine wpList_append_run rfl _ _ 36 rfl HRUN.out ?_)
      go_wp2
      go_roundw
      case rel => exact ⟨k + 1, by go_num, by omega, HP4⟩
      case measure => simp only [intOf]; omega
    · obtain rfl : k = (natInts l).length := by omega
      have HE : Hid (l.take (natInts l).length = l) := Lib.hid (by rw [HN.out, List.take_length])
      go_wp2
      go_ret
      exact ⟨_, rfl, by have := hP.out.row; rw [HE.out] at this; exact this, hP.out.below⟩
/-- A table in memory: a list of lists of numbers. -/
def HoldsTab (w : World) (ot : Option Addr) (tab : List (List Nat)) : Prop :=
  tab = [] ∨ ∃ b off, ot = some ⟨b, off, none⟩ ∧ b < w.heap.size ∧ ∀ m l, tab[m]? = some l → ∃ o c, w.cell? ⟨b, off + m, none⟩ = some (.slice o (natInts l).length c) ∧ HoldsInts w o (natInts l)
theorem HoldsTab.below {w w' : World} {ot : Option Addr} {tab : List (List Nat)} (h : HoldsTab w ot tab) (hb : Below w.heap.size w w') : HoldsTab w' ot tab := by
  rcases h with h | ⟨b, off, h1, h2, h3⟩
  · exact .inl h
  · refine .inr ⟨b, off, h1, Nat.lt_of_lt_of_le h2 hb.size, fun m l hl => ?_⟩
    obtain ⟨o, c, k1, k2⟩ := h3 m l hl
    exact ⟨o, c, (hb.cell (p := ⟨b, _, none⟩) h2).trans k1, k2.below hb⟩
theorem HoldsTab.at {w : World} {ot : Option Addr} {tab : List (List Nat)} {m : Nat} {l : List Nat} (h : HoldsTab w ot tab) (hm : tab[m]? = some l) : ∃ b off o c, ot = some ⟨b, off, none⟩ ∧ b < w.heap.size ∧ w.cell? ⟨b, off + m, none⟩ = some (.slice o (natInts l).length c) ∧ HoldsInts w o (natInts l) := by
  rcases h with h | ⟨b, off, h1, h2, h3⟩
  · subst h; simp at hm
  · obtain ⟨o, c, k1, k2⟩ := h3 m l hm
    exact ⟨b, off, o, c, h1, h2, k1, k2⟩
/-- What l3WayBy answers. -/
def WayGot (f : Found) (w : World) (e : Ending) (w' : World) : Prop := ∃ v, e = .returned (.tuple #[.int .i64 f.scope, .int .i64 f.way, v]) ∧ w'.ownsRow w.heap.size 59 2 v f.places.length (placeCells f.places) ∧ Below w.heap.size w w'
theorem isEmpty_pos {α : Type} {l : List α} (h : 0 < l.length) : l.isEmpty = false := by cases l <;> simp_all
theorem isEmpty_zero {α : Type} {l : List α} (h : ¬ 0 < l.length) : l.isEmpty = true := by cases l <;> simp_all
theorem lookF_cons_own {ss : List Sc} {imps : Nat → List Nat} {nm : ByteArray} {m : Nat} {r : List Nat} (h : 0 < (ownP ss m nm).length) : lookF ss imps nm (m :: r) = ⟨(m : Int), 1, ownP ss m nm⟩ := by
  show (if _ then _ else _) = _
  rw [if_neg (by rw [isEmpty_pos h]; simp)]
theorem lookF_cons_from {ss : List Sc} {imps : Nat → List Nat} {nm : ByteArray} {m : Nat} {r : List Nat} (h : ¬ 0 < (ownP ss m nm).length) (h2 : 0 < (fromP ss (imps m) nm).length) : lookF ss imps nm (m :: r) = ⟨(m : Int), 2, fromP ss (imps m) nm⟩ := by
  show (if _ then (if _ then _ else _) else _) = _
  rw [if_pos (isEmpty_zero h), if_neg (by rw [isEmpty_pos h2]; simp)]
theorem lookF_cons_next {ss : List Sc} {imps : Nat → List Nat} {nm : ByteArray} {m : Nat} {r : List Nat} (h : ¬ 0 < (ownP ss m nm).length) (h2 : ¬ 0 < (fromP ss (imps m) nm).length) : lookF ss imps nm (m :: r) = lookF ss imps nm r := by
  show (if _ then (if _ then _ else _) else _) = _
  rw [if_pos (isEmpty_zero h), if_pos (isEmpty_zero h2)]
set_option maxRecDepth 100000 in
set_option maxHeartbeats 4000000 in
theorem specWayBy_any (ss : List Sc) (hv : Valid ss) (oa : Option Addr) (cap : Nat) (k0 : Nat) (hk0 : k0 ≤ ss.length) (ot : Option Addr) (ct : Nat) (s0 : Nat) (hs0 : s0 < k0) (nm : ByteArray) (w : World) (hc : HoldsScopes w oa ss) (ht : HoldsTab w ot (tabP ss k0)) :
    Calls Tryz.prog 125 #[.agg #[.slice oa ss.length cap], .slice ot k0 ct, .int .i64 s0, .string nm] w (WayGot (lookP ss s0 nm) w) := by
  have hb0 := (Below.refl w.heap.size w).alloc (Nat.le_refl _) (.cells #[.slice oa ss.length cap] 28)
  have R0 := Lib.hid (Row.new w [.slice oa ss.length cap] 28)
  have HB0 := Lib.hid hb0
  have HC := Lib.hid hc
  have HT := Lib.hid ht
  have HV := Lib.hid hv
  have h6 := hv.count.2
  have HK := Lib.hid hv.climbs
  clear hv hc ht hb0
  go_enter Tryz.func125, Tryz.ntmps125
  go_wp2
  go_loopw [2] (fun sv wr => Row wr w.heap.size 28 [.slice oa ss.length cap] ∧ Below w.heap.size w wr ∧
      ((sv = .int .i64 (-1) ∧ Hid (lookP ss s0 nm = ⟨-1, 0, []⟩)) ∨ ∃ i : Nat, sv = .int .i64 i ∧ i ≤ s0 ∧ Hid (lookP ss s0 nm = lookF ss (impP ss) nm (chainP ss i)))) (fun sv _ => (intOf sv + 1).toNat)
  case atStart => exact ⟨R0.out, HB0.out, .inr ⟨s0, rfl, Nat.le_refl _, Lib.hid rfl⟩⟩
  case round =>
    obtain ⟨hR, hb, ⟨rfl, hlook⟩ | ⟨i, rfl, hi, hlook⟩⟩ := hrel
    · have HBB := Lib.hid hb
      have hown0 : (wr.alloc (.cells #[] 59)).ownsRow w.heap.size 59 2 (.slice (some ⟨wr.heap.size, 0, none⟩) 0 0) 0 [] :=
        World.ownsRow_made (base := w.heap.size) (e := 59) (size := 2) wr #[] 0 hb.size (by unfold maxLen; omega) rfl
      have HO := Lib.hid hown0
      clear hR hb hown0
      go_wp2
      go_ret3
      rw [hlook.out]
      exact ⟨_, rfl, HO.out, HBB.out.alloc HBB.out.size _⟩
    · obtain ⟨c, hci⟩ : ∃ c, ss[i]? = some c := ⟨_, List.getElem?_eq_getElem (by omega)⟩
      obtain ⟨bb, off, rfl, hbb, hcell⟩ := HC.out.at (by omega)
      obtain ⟨oi, ci, a0, a1, -⟩ := hcell i c hci
      obtain ⟨bt, offt, o3, c3, rfl, hbt, ht1, ht2⟩ := HT.out.at (tabP_get ss k0 (show i < k0 by omega))
      have C2 := Lib.hid (specL3Own_any ss HV.out (some ⟨bb, off, none⟩) cap i (by omega) nm _ (HC.out.below hb (Nat.le_refl _)))
      have HCI := Lib.hid hci
      have HRR := Lib.hid hR
      have HBB := Lib.hid hb
      have HA0 : Hid (w.cell? ⟨bb, off + i * 2, none⟩ = some (.int .i64 c.parent)) := Lib.hid a0
      have HT1 := Lib.hid (And.intro ht1 ht2)
      have g0 := hR.cell (i := 0) (by rfl)
      have hol := ownP_length HV.out i nm
      clear hR hb hcell hci a0 a1 ht1 ht2
      go_wp2_with fail
      refine C2.out.mono ?_
      rintro e w2 ⟨u, rfl, hu, hb2⟩
      obtain ⟨ou, cu, rfl⟩ := ownsRow_slice hu
      have HB2 := Lib.hid (HBB.out.trans (hb2.mono HBB.out.size))
      have R2 := Lib.hid (HRR.out.below hb2 HRR.out.lt)
      have HU := Lib.hid (ownsRow_lower hu HBB.out.size)
      clear hb2 hu g0
      by_cases hpos : 0 < (ownP ss i nm).length
      · have HE : Hid (lookP ss s0 nm = ⟨(i : Int), 1, ownP ss i nm⟩) := Lib.hid (by
          rw [hlook.out]
          obtain ⟨t, ht⟩ := chain_head ss i
          rw [ht]
          exact lookF_cons_own hpos)
        go_wp2
        go_ret3
        rw [HE.out]
        exact ⟨_, rfl, HU.out, HB2.out⟩
      · have HNP := Lib.hid hpos
        have hz : (ownP ss i nm).length = 0 := by omega
        have g2 := R2.out.cell (i := 0) (by rfl)
        have t2 := (HB2.out.cell (p := ⟨bt, offt + i, none⟩) hbt).trans HT1.out.1
        have hik : (i : Int) < (k0 : Int) := by omega
        have hi00 : (0 : Int) ≤ (i : Int) := by omega
        clear hpos
        go_wp2
        go_cut [12] (fun s12 wx => ∃ o4 c4, s12 = .slice o4 (fromP ss (impP ss i) nm).length c4 ∧ wx.ownsRow w2.heap.size 59 2 (.slice o4 (fromP ss (impP ss i) nm).length c4) (fromP ss (impP ss i) nm).length (placeCells (fromP ss (impP ss i) nm)) ∧ Below w2.heap.size w2 wx)
        case first =>
          go_region_held3 (fun w' => w'.cell? ⟨w.heap.size, 0, none⟩ = some (.slice (some ⟨bb, off, none⟩) ss.length cap) ∧ w'.cell? ⟨bt, offt + i, none⟩ = some (.slice o3 (natInts (impP ss i)).length c3))
            (first | exact ⟨g2, t2⟩ | exact ⟨cell_drew g2, cell_drew t2⟩ | exact ⟨cell_grow hb3 (cell_drew g2), cell_grow hb3 (cell_drew t2)⟩)
            (first | (go_at_call 133; refine (specFromBy_any ss HV.out (some ⟨bb, off, none⟩) cap (impP ss i) (impP_ok HV.out i).1 (by have := impP_length HV.out i; omega) o3 c3 nm _ (HC.out.below HB2.out.drew (Nat.le_refl _)) ((HT1.out.2.below HB2.out.drew))).mono ?_; rintro e w3 ⟨v3, rfl, hrow3, hb3⟩))
          all_goals (obtain ⟨o4, c4, rfl⟩ := ownsRow_slice hrow3)
          all_goals go_wp2
          all_goals go_meet
          all_goals exact ⟨o4, c4, rfl, hrow3, ((Below.refl _ _).drew).trans hb3⟩
        case rest =>
          obtain ⟨o4, c4, rfl, hrow4, hbc⟩ := hcut
          have HB4 := Lib.hid (HB2.out.trans (hbc.mono HB2.out.size))
          have R4 := Lib.hid (R2.out.below hbc R2.out.lt)
          have HO4 := Lib.hid (ownsRow_lower hrow4 HB2.out.size)
          have hfl : (fromP ss (impP ss i) nm).length ≤ 25 := by have h1 := fromP_length HV.out nm (impP ss i); have h2 := impP_length HV.out i; omega
          clear hbc hrow4 g2 t2
          by_cases hpos : 0 < (fromP ss (impP ss i) nm).length
          · have HE : Hid (lookP ss s0 nm = ⟨(i : Int), 2, fromP ss (impP ss i) nm⟩) := Lib.hid (by
              rw [hlook.out]
              obtain ⟨t, ht⟩ := chain_head ss i
              rw [ht]
              exact lookF_cons_from HNP.out hpos)
            go_wp2
            go_ret3
            rw [HE.out]
            exact ⟨_, rfl, HO4.out, HB4.out⟩
          · have HNF := Lib.hid hpos
            have hzf : (fromP ss (impP ss i) nm).length = 0 := by omega
            have g4 := R4.out.cell (i := 0) (by rfl)
            have a4 := (HB4.out.cell (p := ⟨bb, off + i * 2, none⟩) hbb).trans HA0.out
            clear hpos
            rcases HK.out.cases HCI.out with ⟨hz0, h1, h2⟩ | ⟨p, h1, hlt, h2⟩
            · rw [h1] at a4
              have HE : Hid (lookP ss s0 nm = ⟨-1, 0, []⟩) := Lib.hid (by rw [hlook.out, chain_none h2, lookF_cons_next HNP.out HNF.out]; rfl)
              clear h1 h2 hz0
              go_wp2
              go_roundw
              case rel => exact ⟨R4.out, HB4.out, .inl ⟨rfl, HE⟩⟩
              case measure => simp only [intOf]; omega
            · rw [h1] at a4
              have HE : Hid (lookP ss s0 nm = lookF ss (impP ss) nm (chainP ss p)) := Lib.hid (by rw [hlook.out, chain_some HK.out h2, lookF_cons_next HNP.out HNF.out])
              clear h1 h2
              go_wp2
              go_roundw
              case rel => exact ⟨R4.out, HB4.out, .inr ⟨p, rfl, by omega, HE⟩⟩
              case measure => simp only [intOf]; omega
end Go.Proofs.YtgehpaojbnpbcaaGreatDoor
namespace Go.Proofs.YtgehpaojbnpbcaaGreatDoor
open Go Go.RowKit Go.Maps
theorem field_kind (k s : Int) (nm : ByteArray) (w : World) : (Instr.field 137 (.agg #[.int .i64 k, .string nm, .int .i64 s]) 0).run Tryz.prog w = .ok (.int .i64 k) w := by kernel_rfl
theorem field_name (k s : Int) (nm : ByteArray) (w : World) : (Instr.field 137 (.agg #[.int .i64 k, .string nm, .int .i64 s]) 1).run Tryz.prog w = .ok (.string nm) w := by kernel_rfl
theorem field_scope (k s : Int) (nm : ByteArray) (w : World) : (Instr.field 137 (.agg #[.int .i64 k, .string nm, .int .i64 s]) 2).run Tryz.prog w = .ok (.int .i64 s) w := by kernel_rfl
attribute [local go_sem ↓] field_kind field_name field_scope
end Go.Proofs.YtgehpaojbnpbcaaGreatDoor
namespace Go.Proofs.YtgehpaojbnpbcaaGreatDoor
open Go Go.RowKit Go.Maps
attribute [local go_sem ↓] field_kind field_name field_scope
set_option maxRecDepth 100000 in
set_option maxHeartbeats 4000000 in
theorem specMeantBy_any (ss : List Sc) (hv : Valid ss) (oa : Option Addr) (cap : Nat) (k0 : Nat) (hk0 : k0 ≤ ss.length) (ot : Option Addr) (ct : Nat) (s : Nat) (hs : s ≤ k0) (hsl : s < ss.length) (nm : ByteArray) (w : World) (hc : HoldsScopes w oa ss) (ht : HoldsTab w ot (tabP ss k0)) :
    Calls Tryz.prog 113 #[.agg #[.slice oa ss.length cap], .slice ot k0 ct, .int .i64 s, .string nm] w (PlsGot (meantP ss s nm) w) := by
  have hb0 := (Below.refl w.heap.size w).alloc (Nat.le_refl _) (.cells #[.slice oa ss.length cap] 28)
  have R0 := Lib.hid (Row.new w [.slice oa ss.length cap] 28)
  have h6 := hv.count.2
  obtain ⟨c, hci⟩ : ∃ c, ss[s]? = some c := ⟨_, List.getElem?_eq_getElem hsl⟩
  obtain ⟨bb, off, rfl, hbb, hcell⟩ := hc.at (by omega)
  obtain ⟨oi, ci, a0, a1, -⟩ := hcell s c hci
  have HA0 : Hid (w.cell? ⟨bb, off + s * 2, none⟩ = some (.int .i64 c.parent)) := Lib.hid a0
  have C2 := Lib.hid (specL3Own_any ss hv (some ⟨bb, off, none⟩) cap s hsl nm _ (hc.below hb0 (Nat.le_refl _)))
  have HB0 := Lib.hid hb0
  have HC := Lib.hid hc
  have HT := Lib.hid ht
  have HV := Lib.hid hv
  have HCS := Lib.hid (hv.climbs.cases hci)
  have hol := ownP_length hv s nm
  clear hv hc ht hb0 hcell hci a0 a1
  go_enter Tryz.func113, Tryz.ntmps113
  go_wp2_with fail
  refine C2.out.mono ?_
  rintro e w2 ⟨u, rfl, hu, hb2⟩
  obtain ⟨ou, cu, rfl⟩ := ownsRow_slice hu
  have HB2 := Lib.hid (HB0.out.trans (hb2.mono HB0.out.size))
  have R2 := Lib.hid (R0.out.below hb2 R0.out.lt)
  have HU := Lib.hid (ownsRow_lower hu HB0.out.size)
  have g2 := R2.out.cell (i := 0) (by rfl)
  have a2 := (HB2.out.cell (p := ⟨bb, off + s * 2, none⟩) hbb).trans HA0.out
  have hsi : (s : Int) < (ss.length : Int) := by omega
  have hs0 : (0 : Int) ≤ (s : Int) := by omega
  clear hb2 hu
  by_cases hpos : 0 < (ownP ss s nm).length
  · have HE : Hid (meantP ss s nm = ownP ss s nm) := Lib.hid (meantP_own (isEmpty_pos hpos))
    go_wp2
    go_ret
    rw [HE.out]
    exact ⟨_, rfl, HU.out, HB2.out⟩
  · have hz : (ownP ss s nm).length = 0 := by omega
    have HEM := Lib.hid (isEmpty_zero hpos)
    have HNIL : Hid (ownP ss s nm = []) := Lib.hid (List.eq_nil_of_length_eq_zero hz)
    clear hpos
    rcases HCS.out with ⟨hz0, h1, h2⟩ | ⟨p, h1, hlt, h2⟩
    · rw [h1] at a2
      have HE : Hid (meantP ss s nm = []) := Lib.hid (meantP_none HEM.out h2)
      have HU0 : Hid (w2.ownsRow w.heap.size 59 2 (.slice ou 0 cu) 0 []) := Lib.hid (by have h := HU.out; rw [HNIL.out] at h; exact h)
      clear h1 h2 hz0
      go_wp2
      go_ret
      rw [HE.out]
      exact ⟨_, rfl, HU0.out, HB2.out⟩
    · rw [h1] at a2
      have HE : Hid (meantP ss s nm = (lookP ss p nm).places) := Lib.hid (meantP_par HEM.out h2)
      have hp0 : ¬ (p : Int) < 0 := by omega
      have hpk : p < k0 := by omega
      clear h1 h2
      go_wp2
      go_cut [12] (fun s12 wx => wx.ownsRow w.heap.size 59 2 s12 (lookP ss p nm).places.length (placeCells (lookP ss p nm).places) ∧ Below w2.heap.size w2 wx)
      case first =>
        go_region_held3 (fun w' => w'.cell? ⟨w.heap.size, 0, none⟩ = some (.slice (some ⟨bb, off, none⟩) ss.length cap) ∧ w'.cell? ⟨bb, off + s * 2, none⟩ = some (.int .i64 (p : Int)))
          (first | exact ⟨g2, a2⟩ | exact ⟨cell_drew g2, cell_drew a2⟩ | exact ⟨cell_grow hb3 (cell_drew g2), cell_grow hb3 (cell_drew a2)⟩)
          (first | (go_at_call 125; refine (specWayBy_any ss HV.out (some ⟨bb, off, none⟩) cap k0 hk0 ot ct p hpk nm _ (HC.out.below HB2.out.drew (Nat.le_refl _)) (HT.out.below HB2.out.drew)).mono ?_; rintro e w3 ⟨v3, rfl, hrow3, hb3⟩))
        all_goals go_wp2
        all_goals go_meet
        all_goals exact ⟨ownsRow_lower hrow3 HB2.out.size, ((Below.refl _ _).drew).trans hb3⟩
      case rest =>
        obtain ⟨hrow4, hbc⟩ := hcut
        have HO := Lib.hid (And.intro hrow4 (HB2.out.trans (hbc.mono HB2.out.size)))
        clear hbc hrow4 g2 a2
        go_wp2
        go_ret
        rw [HE.out]
        exact ⟨_, rfl, HO.out.1, HO.out.2⟩
end Go.Proofs.YtgehpaojbnpbcaaGreatDoor
namespace Go.Proofs.YtgehpaojbnpbcaaGreatDoor
open Go Go.RowKit Go.Maps
attribute [local go_sem ↓] field_kind field_name field_scope
theorem infoSl : (Tryz.prog.info? 96).map (fun i => (i.zero, i.size, i.bytes)) = some (some (.slice none 0 0), 1, 24) := by kernel_rfl
/-- Two rows of one's own whose elements have different types lie in different blocks. -/
theorem ownsRows_ne {w : World} {b1 b2 n1 n2 s1 s2 : Nat} {t1 t2 : TypeId} {v1 v2 : Value} {xs1 xs2 : List Value} (h1 : w.ownsRow b1 t1 s1 v1 n1 xs1) (h2 : w.ownsRow b2 t2 s2 v2 n2 xs2) (ht : t1 ≠ t2) : v1.ownBlock = none ∨ v1.ownBlock ≠ v2.ownBlock := by
  obtain ⟨_, k1 | ⟨g1, c1, cur1, hv1, _, hh1, _⟩⟩ := h1
  · exact .inl (by rw [k1.1]; rfl)
  · obtain ⟨_, k2 | ⟨g2, c2, cur2, hv2, _, hh2, _⟩⟩ := h2
    · refine .inr ?_
      rw [k2.1, hv1]
      intro e
      cases e
    · refine .inr ?_
      rw [hv1, hv2]
      intro e
      simp only [Value.ownBlock, Option.some.injEq] at e
      subst e
      rw [hh1] at hh2
      injection hh2 with hh2
      injection hh2 with _ e2
      exact ht e2
/-- What holds at the head of a scope's round. -/
structure TabAt (w wr : World) (oa : Option Addr) (cap n : Nat) (v : Value) (tab : List (List Nat)) : Prop where
  box : Row wr w.heap.size 28 [.slice oa n cap]
  row : ∃ hs : List Value, wr.ownsRow w.heap.size 96 1 v tab.length hs ∧ ∀ (m : Nat) (l : List Nat), tab[m]? = some l → ∃ u : Value, hs[m]? = some u ∧ wr.ownsRow w.heap.size 3 1 u l.length (numVals l)
  below : Below w.heap.size w wr
theorem TabAt.step {w wr w' : World} {oa : Option Addr} {cap n : Nat} {v : Value} {tab : List (List Nat)} (h : TabAt w wr oa cap n v tab) (hb : Below wr.heap.size wr w') : TabAt w w' oa cap n v tab where
  box := h.box.below hb h.box.lt
  row := by
    obtain ⟨hs, h1, h2⟩ := h.row
    refine ⟨hs, ownsRow_below h1 hb, fun m l hl => ?_⟩
    obtain ⟨u, k1, k2⟩ := h2 m l hl
    exact ⟨u, k1, ownsRow_below k2 hb⟩
  below := h.below.trans (hb.mono h.below.size)
/-- The lists of a table are the call's own. -/
def OwnsTab (w : World) (base : Nat) (ot : Option Addr) (tab : List (List Nat)) : Prop :=
  ∀ (m : Nat) (l : List Nat), tab[m]? = some l → ∃ (b off : Nat) (u : Value), ot = some ⟨b, off, none⟩ ∧ b < w.heap.size ∧ w.cell? ⟨b, off + m, none⟩ = some u ∧ w.ownsRow base 3 1 u l.length (numVals l)
theorem TabAt.tab {w wr : World} {oa : Option Addr} {cap n : Nat} {v : Value} {tab : List (List Nat)} (h : TabAt w wr oa cap n v tab) : ∃ ot ct, v = .slice ot tab.length ct ∧ HoldsTab wr ot tab ∧ OwnsTab wr w.heap.size ot tab := by
  obtain ⟨hs, ⟨hl, h2 | ⟨g, ct, cur, hv, hB, hh, hn, _, hsz, ht⟩⟩, h3⟩ := h.row
  · have e := List.eq_nil_of_length_eq_zero h2.2
    refine ⟨none, 0, by rw [h2.1, h2.2], .inl e, fun m l hm => ?_⟩
    rw [e] at hm
    simp at hm
  · have hc : ∀ (m : Nat) (u : Value), m < tab.length → hs[m]? = some u → wr.cell? ⟨g, 0 + m, none⟩ = some u := by
      intro m u hml k1
      rw [← ht, List.getElem?_take_of_lt (by omega)] at k1
      rw [Nat.zero_add]
      simp [World.cell?, hh]
      simpa using k1
    refine ⟨_, ct, hv, .inr ⟨g, 0, rfl, (Array.getElem?_eq_some_iff.1 hh).1, fun m l hm => ?_⟩, fun m l hm => ?_⟩
    · obtain ⟨u, k1, k2⟩ := h3 m l hm
      obtain ⟨o, c, rfl, k3⟩ := holdsInts_of_owns k2
      exact ⟨o, c, hc m _ (List.getElem?_eq_some_iff.1 hm).1 k1, k3⟩
    · obtain ⟨u, k1, k2⟩ := h3 m l hm
      exact ⟨g, 0, u, rfl, (Array.getElem?_eq_some_iff.1 hh).1, hc m _ (List.getElem?_eq_some_iff.1 hm).1 k1, k2⟩
/-- A list more. -/
theorem TabAt.more {w wr w' : World} {oa : Option Addr} {cap n : Nat} {v v' u : Value} {tab : List (List Nat)} {hs : List Value} {l : List Nat} {o : Obj} (h : TabAt w wr oa cap n v tab)
    (hrow : wr.ownsRow w.heap.size 96 1 v tab.length hs) (hls : ∀ (m : Nat) (l : List Nat), tab[m]? = some l → ∃ u : Value, hs[m]? = some u ∧ wr.ownsRow w.heap.size 3 1 u l.length (numVals l))
    (hu : wr.ownsRow w.heap.size 3 1 u l.length (numVals l)) (hown : w'.ownsRow w.heap.size 96 1 v' (tab.length + 1) (hs ++ [u])) (hg : (wr.alloc o).grownBy w' v.ownBlock) : TabAt w w' oa cap n v' (tab ++ [l]) where
  box := (h.box.alloc o).grown hg (ownsRow_ne h.box (by decide) hrow)
  row := by
    refine ⟨hs ++ [u], by simpa using hown, fun m l' hm => ?_⟩
    have hk : ∀ {q : Value} {l' : List Nat}, wr.ownsRow w.heap.size 3 1 q l'.length (numVals l') → w'.ownsRow w.heap.size 3 1 q l'.length (numVals l') := fun hq => (hq.alloc o).kept hg (ownsRows_ne hq hrow (by decide))
    have hlen : hs.length = tab.length := by have := hrow.1; omega
    by_cases hlt : m < tab.length
    · rw [List.getElem?_append_left hlt] at hm
      obtain ⟨q, k1, k2⟩ := hls m l' hm
      exact ⟨q, by rw [List.getElem?_append_left (by omega)]; exact k1, hk k2⟩
    · obtain rfl : m = tab.length := by
        have := (List.getElem?_eq_some_iff.1 hm).1
        simp at this
        omega
      rw [List.getElem?_append_right (Nat.le_refl _), Nat.sub_self] at hm
      cases hm
      exact ⟨u, by rw [List.getElem?_append_right (by omega), hlen, Nat.sub_self]; rfl, hk hu⟩
  below := h.below.trans (below_append2 hrow hg (Nat.le_refl _) h.below.size)
set_option maxRecDepth 100000 in
set_option maxHeartbeats 8000000 in
theorem specTable_any (ss : List Sc) (hv : Valid ss) (hf : FitsScopes ss) (oa : Option Addr) (cap : Nat) (w : World) (hc : HoldsScopes w oa ss) :
    Calls Tryz.prog 114 #[.agg #[.slice oa ss.length cap]] w fun e w' => ∃ ot ct, e = .returned (.slice ot ss.length ct) ∧ HoldsTab w' ot (tabP ss ss.length) ∧ OwnsTab w' w.heap.size ot (tabP ss ss.length) ∧ Below w.heap.size w w' := by
  have hb0 := ((Below.refl w.heap.size w).alloc (Nat.le_refl _) (.cells #[.slice oa ss.length cap] 28)).alloc (by simp) (.cells #[] 96)
  have hR0 := (Row.new w [.slice oa ss.length cap] 28).alloc (.cells #[] 96)
  have hown0 : ((w.alloc (.cells #[.slice oa ss.length cap] 28)).alloc (.cells #[] 96)).ownsRow w.heap.size 96 1 (.slice (some ⟨w.heap.size + 1, 0, none⟩) 0 0) 0 [] := by
    have h0 := World.ownsRow_made (base := w.heap.size) (e := 96) (size := 1) (w.alloc (.cells #[.slice oa ss.length cap] 28)) #[] 0 (by simp) (by unfold maxLen; omega) rfl
    rw [World.size_alloc] at h0
    exact h0
  have HP0 : Hid (TabAt w ((w.alloc (.cells #[.slice oa ss.length cap] 28)).alloc (.cells #[] 96)) oa cap ss.length (.slice (some ⟨w.heap.size + 1, 0, none⟩) 0 0) (tabP ss 0)) := Lib.hid ⟨hR0, ⟨[], hown0, fun m l h => by simp [tabP] at h⟩, hb0⟩
  have HC := Lib.hid hc
  have HV := Lib.hid hv
  have HF := Lib.hid hf
  have h6 := hv.count.2
  have g00 := hR0.cell (i := 0) (by rfl)
  clear hv hc hf hb0 hR0 hown0
  go_enter Tryz.func114, Tryz.ntmps114
  go_wp2
  go_loopw [3, 15] (fun v i wr => ∃ k : Nat, i = .int .i64 k ∧ k ≤ ss.length ∧ Hid (TabAt w wr oa cap ss.length v (tabP ss k))) (fun _ i _ => ss.length - (intOf i).toNat)
  case atStart => exact ⟨0, rfl, Nat.zero_le _, HP0⟩
  case round =>
    obtain ⟨k, rfl, hk, hP⟩ := hrel
    obtain ⟨W0, rfl⟩ : ∃ x, x = wr := ⟨wr, rfl⟩
    obtain ⟨ot, ct, hvv, htab, hto⟩ := hP.out.tab
    rw [tabP_length] at hvv
    subst hvv
    have HTB := Lib.hid htab
    have HTO := Lib.hid hto
    clear hto
    by_cases hlt : k < ss.length
    · obtain ⟨c, hck⟩ : ∃ c, ss[k]? = some c := ⟨_, List.getElem?_eq_getElem hlt⟩
      obtain ⟨bb, off, rfl, hbb, hcell⟩ := HC.out.at (by omega)
      obtain ⟨oi, ci, a0, a1, hci⟩ := hcell k c hck
      have hil := HV.out.five c (List.mem_of_getElem? hck)
      have b0 := (hP.out.below.cell (p := ⟨bb, off + k * 2, none⟩) hbb).trans a0
      have b1 := (hP.out.below.cell (p := ⟨bb, off + k * 2 + 1, none⟩) hbb).trans a1
      have hbx := ((Below.refl W0.heap.size W0).alloc (Nat.le_refl _) (.cells #[.int .i64 c.parent, .slice oi c.items.length ci] 67)).alloc (by simp) (.cells #[] 3)
      have hown1 : ((W0.alloc (.cells #[.int .i64 c.parent, .slice oi c.items.length ci] 67)).alloc (.cells #[] 3)).ownsRow W0.heap.size 3 1 (.slice (some ⟨W0.heap.size + 1, 0, none⟩) 0 0) 0 [] := by
        have h0 := World.ownsRow_made (base := W0.heap.size) (e := 3) (size := 1) (W0.alloc (.cells #[.int .i64 c.parent, .slice oi c.items.length ci] 67)) #[] 0 (by simp) (by unfold maxLen; omega) rfl
        rw [World.size_alloc] at h0
        exact h0
      have HS := Lib.hid (And.intro hown1 hbx)
      have HI := Lib.hid hci
      have HCK := Lib.hid hck
      have HIT := Lib.hid (itemsP_of hck)
      have hW0 := hP.out.below.size
      clear hcell hci a0 a1 hbx hown1 htab hck
      go_wp2
      go_loopw [6, 24] (fun u i wr => ∃ j : Nat, i = .int .i64 j ∧ j ≤ c.items.length ∧ Hid (wr.ownsRow W0.heap.size 3 1 u (impUp ss (impP ss) k c.items j).length (numVals (impUp ss (impP ss) k c.items j)) ∧ Below W0.heap.size W0 wr)) (fun _ i _ => c.items.length - (intOf i).toNat)
      case atStart => exact ⟨0, rfl, Nat.zero_le _, HS⟩
      case round =>
        obtain ⟨j, rfl, hj, hU⟩ := hrel
        by_cases hlt2 : j < c.items.length
        · obtain ⟨x, hx⟩ : ∃ x, c.items[j]? = some x := ⟨_, List.getElem?_eq_getElem hlt2⟩
          obtain ⟨b2, o2, rfl, hb2, hcell2⟩ := HI.out.at (by omega)
          obtain ⟨x0, x1, x2⟩ := hcell2 j x hx
          have HBW := Lib.hid (hP.out.below.trans (hU.out.2.mono hP.out.below.size))
          have y0 := (HBW.out.cell (p := ⟨b2, o2 + j * 3, none⟩) hb2).trans x0
          have y1 := (HBW.out.cell (p := ⟨b2, o2 + j * 3 + 1, none⟩) hb2).trans x1
          have y2 := (HBW.out.cell (p := ⟨b2, o2 + j * 3 + 2, none⟩) hb2).trans x2
          have hbi := (Below.refl wr.heap.size wr).alloc (Nat.le_refl _) (.cells #[.int .i64 x.kind, .string x.name, .int .i64 x.scope] 137)
          have HBI := Lib.hid (hU.out.2.trans (hbi.mono hU.out.2.size))
          have HUI := Lib.hid (ownsRow_below hU.out.1 hbi)
          have hul := impUp_length (ss := ss) k c.items j
          have HST := Lib.hid (impUp_snoc (ss := ss) (imps := impP ss) (s := k) hx)
          have HXX := Lib.hid hx
          clear hx hcell2 x0 x1 x2 hbi
          by_cases hkd : x.kind = 3
          · have hq : (x.kind == 3) = true := by simpa using hkd
            have HKD := Lib.hid hkd
            have HT1 := Lib.hid (hP.out.step HBI.out)
            have C2 := Lib.hid (specMeantBy_any ss HV.out (some ⟨bb, off, none⟩) cap k (by omega) ot ct k (Nat.le_refl _) hlt x.name _ (HC.out.below HT1.out.below (Nat.le_refl _)) (HTB.out.below HBI.out))
            have RI := Lib.hid (Row.new wr [.int .i64 x.kind, .string x.name, .int .i64 x.scope] 137)
            have g1 := HT1.out.box.cell (i := 0) (by rfl)
            clear hkd
            go_wp2_with fail
            refine C2.out.mono ?_
            rintro e w3 ⟨v3, rfl, hrow3, hb3⟩
            obtain ⟨o3, c3, rfl, harg⟩ := argPlaces_of_owns hrow3
            have HT3 := Lib.hid (HT1.out.step hb3)
            have HB3 := Lib.hid (HBI.out.trans (hb3.mono HBI.out.size))
            have HU3 := Lib.hid (ownsRow_below HUI.out hb3)
            have HA3 := Lib.hid harg
            have hml : (meantP ss k x.name).length ≤ 25 := by
              unfold meantP meantF
              split
              · split
                · simp
                · exact lookF_length HV.out _ _
              · have := ownP_length HV.out k x.name; omega
            clear hb3 hrow3 harg g1 y0 y1 y2
            by_cases h1 : (meantP ss k x.name).length = 1
            · obtain ⟨p, hp⟩ := List.length_eq_one_iff.1 h1
              obtain ⟨i2, j2, c2, y, rfl, hc2, hy2⟩ := meant_isPlace p (by rw [hp]; exact List.mem_singleton.2 rfl)
              have HTG : Hid (targetP ss k x.name = y.scope) := Lib.hid (by rw [targetP_one hp, scopeAt_of hc2 hy2])
              have hTO := target_ok HV.out k x.name
              rw [HTG.out] at hTO
              obtain ⟨b5, f5, rfl, hb5, q5⟩ := HA3.out.at (by omega)
              obtain ⟨r0, r1⟩ := q5 0 ((i2 : Int), (j2 : Int)) (by rw [hp]; rfl)
              rw [Nat.zero_mul, Nat.add_zero] at r0 r1
              have g3 := HT3.out.box.cell (i := 0) (by rfl)
              have C3 := fun W (hbW : Below w.heap.size w W) => specAt_any ss HF.out (some ⟨bb, off, none⟩) cap i2 j2 c2 y hc2 hy2 W (HC.out.below hbW (Nat.le_refl _))
              have HC3 := Lib.hid C3
              clear C3 hp hc2 hy2 q5
              rw [h1]
              go_wp2
              go_cut [10] (fun s10 wx => s10 = .int .i64 y.scope ∧ Below w3.heap.size w3 wx)
              case first =>
                go_region_held3 (fun w' => w'.cell? ⟨w.heap.size, 0, none⟩ = some (.slice (some ⟨bb, off, none⟩) ss.length cap) ∧ w'.cell? ⟨b5, f5, none⟩ = some (.int .i64 (i2 : Int)) ∧ w'.cell? ⟨b5, f5 + 1, none⟩ = some (.int .i64 (j2 : Int)))
                  (first | exact ⟨g3, r0, r1⟩ | exact ⟨cell_drew g3, cell_drew r0, cell_drew r1⟩ | exact ⟨cell_grow hb4 (cell_drew g3), cell_grow hb4 (cell_drew r0), cell_grow hb4 (cell_drew r1)⟩)
                  (first | (go_at_call 85; refine (HC3.out _ HT3.out.below.drew).mono ?_; rintro e w4 ⟨rfl, hb4⟩; unfold itV))
                all_goals go_wp2
                all_goals go_meet
                all_goals exact ⟨rfl, ((Below.refl _ _).drew).trans hb4⟩
              case rest =>
                obtain ⟨rfl, hbc⟩ := hcut
                have HT4 := Lib.hid (HT3.out.step hbc)
                have HB4 := Lib.hid (HB3.out.trans (hbc.mono HB3.out.size))
                have hu4 := ownsRow_below HU3.out hbc
                obtain ⟨ou, cu, rfl, hh4⟩ := holdsInts_of_owns hu4
                have HU4 := Lib.hid hu4
                have HH4 := Lib.hid hh4
                have HNL : Hid ((natInts (impUp ss (impP ss) k c.items j)).length < 2 ^ 40) := Lib.hid (by rw [natInts_length]; omega)
                clear hbc hu4 hh4 g3 r0 r1
                rcases hTO with ht | ⟨m, ht, hm⟩
                · have HE : Hid (impUp ss (impP ss) k c.items (j + 1) = impUp ss (impP ss) k c.items j) := Lib.hid (by rw [HST.out, impStep_none (HTG.out.trans ht)])
                  rw [ht]
                  go_wp2
                  go_roundw
                  case rel => exact ⟨j + 1, by go_num, by omega, Lib.hid (by rw [HE.out]; exact ⟨HU4.out, HB4.out⟩)⟩
                  case measure => simp only [intOf]; omega
                · rw [ht]
                  go_wp2_with fail
                  refine (l2In_any (natInts (impUp ss (impP ss) k c.items j)) ou cu (m : Int) _ HNL.out HH4.out).mono ?_
                  rintro e w5 ⟨rfl, hb5⟩
                  have HB5 := Lib.hid (HB4.out.trans (hb5.mono HB4.out.size))
                  have HU5 := Lib.hid (ownsRow_below HU4.out hb5)
                  obtain ⟨q, hq2⟩ : ∃ q, decide ((m : Int) ∈ natInts (impUp ss (impP ss) k c.items j)) = q := ⟨_, rfl⟩
                  rw [hq2]
                  have HQ := Lib.hid hq2
                  clear hb5 hq2
                  cases q
                  · have HNI : Hid (m ∉ impUp ss (impP ss) k c.items j) := Lib.hid (fun h => by have := HQ.out; simp [mem_natInts.2 h] at this)
                    have HE : Hid (impUp ss (impP ss) k c.items (j + 1) = impUp ss (impP ss) k c.items j ++ [m]) := Lib.hid (by rw [HST.out, impStep_new HKD.out (HTG.out.trans ht) HNI.out])
                    obtain ⟨i0, hi0, hz0, hz1, hz2⟩ := info_parts infoInt
                    have hbs5 := HB5.out.size
                    go_wp2_with (at_builtin; refine wpList_append_own _ rfl _ _ 96 rfl W0.heap.size 3 i0 (.int .i64 0) 1 8 Tryz.underlying96 hi0 hz0 hz1 hz2 rfl (by decide) _ _ _ rfl (HU5.out.alloc _) ⟨w5.heap.size, 0, none⟩ 1 1 [.int .i64 (m : Int)] rfl rfl ?c1 ?c2 ?c3 ?c4 ?c5 ?_)
                    case c1 => exact cells_new _ _ _
                    case c2 => intro u hu; simp only [List.mem_singleton] at hu; subst hu; rfl
                    case c3 => unfold maxLen; omega
                    case c4 => omega
                    case c5 => simp only [World.size_alloc]; omega
                    intro v' w6 hown' hgrow _
                    have HB6 := Lib.hid (HB5.out.trans (below_append HU5.out hgrow (Nat.le_refl W0.heap.size) hbs5))
                    have HU6 := Lib.hid hown'
                    clear hown' hgrow
                    go_wp2
                    go_roundw
                    case rel => exact ⟨j + 1, by go_num, by omega, Lib.hid (by rw [HE.out, List.length_append, numVals_snoc]; exact ⟨HU6.out, HB6.out⟩)⟩
                    case measure => simp only [intOf]; omega
                  · have HNI : Hid (m ∈ impUp ss (impP ss) k c.items j) := Lib.hid (mem_natInts.1 (by have := HQ.out; simpa using this))
                    have HE : Hid (impUp ss (impP ss) k c.items (j + 1) = impUp ss (impP ss) k c.items j) := Lib.hid (by rw [HST.out, impStep_in (HTG.out.trans ht) HNI.out])
                    go_wp2
                    go_roundw
                    case rel => exact ⟨j + 1, by go_num, by omega, Lib.hid (by rw [HE.out]; exact ⟨HU5.out, HB5.out⟩)⟩
                    case measure => simp only [intOf]; omega
            · have HE : Hid (impUp ss (impP ss) k c.items (j + 1) = impUp ss (impP ss) k c.items j) := Lib.hid (by rw [HST.out, impStep_none (targetP_not h1)])
              have hne : (((meantP ss k x.name).length : Int) == 1) = false := by simp; omega
              go_wp2
              go_roundw
              case rel => exact ⟨j + 1, by go_num, by omega, Lib.hid (by rw [HE.out]; exact ⟨HU3.out, HB3.out⟩)⟩
              case measure => simp only [intOf]; omega
          · have hq : (x.kind == 3) = false := by simpa using hkd
            have HE : Hid (impUp ss (impP ss) k c.items (j + 1) = impUp ss (impP ss) k c.items j) := Lib.hid (by rw [HST.out, impStep_other hkd])
            clear hkd
            go_wp2
            go_roundw
            case rel => exact ⟨j + 1, by go_num, by omega, Lib.hid (by rw [HE.out]; exact ⟨HUI.out, HBI.out⟩)⟩
            case measure => simp only [intOf]; omega
        · obtain rfl : j = c.items.length := by omega
          have HP6 := Lib.hid (hP.out.step (hU.out.2))
          obtain ⟨ou, cu, rfl, _⟩ := holdsInts_of_owns hU.out.1
          have HUL : Hid (wr.ownsRow w.heap.size 3 1 (.slice ou (natInts (impUp ss (impP ss) k c.items c.items.length)).length cu) (impF ss (impP ss) k).length (numVals (impF ss (impP ss) k))) := Lib.hid (by
            have h := ownsRow_lower hU.out.1 hP.out.below.size
            unfold impF
            rw [HIT.out]
            exact h)
          obtain ⟨hs, hrw, hls⟩ := HP6.out.row
          have HHS := Lib.hid (And.intro hrw hls)
          have hrw2 := hrw
          rw [tabP_length] at hrw2
          have HRW := Lib.hid hrw2
          have hbs6 := HP6.out.below.size
          obtain ⟨i0, hi0, hz0, hz1, hz2⟩ := info_parts infoSl
          clear hrw hls hrw2
          go_wp2_with (at_builtin; refine wpList_append_own _ rfl _ _ 186 rfl w.heap.size 96 i0 (.slice none 0 0) 1 24 Tryz.underlying186 hi0 hz0 hz1 hz2 rfl (by decide) _ _ _ rfl (HRW.out.alloc _) ⟨wr.heap.size, 0, none⟩ 1 1 [.slice ou (natInts (impUp ss (impP ss) k c.items c.items.length)).length cu] rfl rfl ?c1 ?c2 ?c3 ?c4 ?c5 ?_)
          case c1 => exact cells_new _ _ _
          case c2 => intro u' hu; simp only [List.mem_singleton] at hu; subst hu; rfl
          case c3 => unfold maxLen; omega
          case c4 => omega
          case c5 => simp only [World.size_alloc]; omega
          intro v' w6 hown' hgrow _
          have HNEW : Hid (TabAt w w6 (some ⟨bb, off, none⟩) cap ss.length v' (tabP ss (k + 1))) := Lib.hid (by
            rw [tabP_snoc HV.out.climbs]
            exact HP6.out.more HHS.out.1 HHS.out.2 HUL.out (by rw [tabP_length]; exact hown') hgrow)
          clear hown' hgrow
          go_wp2
          go_roundw
          case rel => exact ⟨k + 1, by go_num, by omega, HNEW⟩
          case measure => simp only [intOf]; omega
    · obtain rfl : k = ss.length := by omega
      go_wp2
      go_ret
      exact ⟨_, _, rfl, HTB.out, HTO.out, hP.out.below⟩
end Go.Proofs.YtgehpaojbnpbcaaGreatDoor
namespace Go.Proofs.YtgehpaojbnpbcaaGreatDoor
open Go Go.RowKit Go.Maps
set_option maxRecDepth 100000 in
set_option maxHeartbeats 4000000 in
theorem specWay_any (ss : List Sc) (hv : Valid ss) (hf : FitsScopes ss) (oa : Option Addr) (cap : Nat) (s : Nat) (hs : s < ss.length) (nm : ByteArray) (w : World) (hc : HoldsScopes w oa ss) :
    Calls Tryz.prog 112 #[.agg #[.slice oa ss.length cap], .int .i64 (s : Int), .string nm] w (WayGot (lookP ss s nm) w) := by
  have hb0 := (Below.refl w.heap.size w).alloc (Nat.le_refl _) (.cells #[.slice oa ss.length cap] 28)
  have R := Lib.hid (Row.new w [.slice oa ss.length cap] 28)
  have g2 := R.out.cell (i := 0) (by rfl)
  have HB0 := Lib.hid hb0
  have HC := Lib.hid hc
  have HV := Lib.hid hv
  have HF := Lib.hid hf
  have HS := Lib.hid hs
  clear hv hf hc hb0 hs
  go_enter Tryz.func112, Tryz.ntmps112
  go_wp2
  go_cut [6, 7, 8] (fun s6 s7 s8 wx => s6 = .int .i64 (lookP ss s nm).scope ∧ s7 = .int .i64 (lookP ss s nm).way ∧ ∃ o4 c4, s8 = .slice o4 (lookP ss s nm).places.length c4 ∧ wx.ownsRow w.heap.size 59 2 (.slice o4 (lookP ss s nm).places.length c4) (lookP ss s nm).places.length (placeCells (lookP ss s nm).places) ∧ Below w.heap.size w wx)
  case first =>
    go_region_held3 (fun w' => w'.cell? ⟨w.heap.size, 0, none⟩ = some (.slice oa ss.length cap))
      (first | exact g2 | exact cell_drew g2 | exact cell_grow hb3 (cell_drew g2) | exact cell_grow hb4 (cell_grow hb3 (cell_drew g2)))
      (first | (go_at_call 114; refine (specTable_any ss HV.out HF.out oa cap _ (HC.out.below HB0.out.drew (Nat.le_refl _))).mono ?_; rintro e w3 ⟨o3, c3, rfl, ht3, -, hb3⟩) | (go_at_call 125; refine (specWayBy_any ss HV.out oa cap ss.length (Nat.le_refl _) o3 c3 s HS.out nm _ (HC.out.below (HB0.out.drew.trans (hb3.mono HB0.out.drew.size)) (Nat.le_refl _)) ht3).mono ?_; rintro e w4 ⟨v4, rfl, hrow4, hb4⟩; obtain ⟨o4, c4, rfl⟩ := ownsRow_slice hrow4))
    all_goals go_wp2
    all_goals go_meet
    all_goals exact ⟨rfl, rfl, o4, c4, rfl, ownsRow_lower hrow4 (Nat.le_trans HB0.out.drew.size hb3.size), (HB0.out.drew.trans (hb3.mono HB0.out.drew.size)).trans (hb4.mono (Nat.le_trans HB0.out.drew.size hb3.size))⟩
  case rest =>
    obtain ⟨rfl, rfl, o4, c4, rfl, hrow4, hbc⟩ := hcut
    have HR := Lib.hid hrow4
    have HBC := Lib.hid hbc
    clear hrow4 hbc
    go_wp2
    go_ret3
    exact ⟨_, rfl, HR.out, HBC.out⟩
set_option maxRecDepth 100000 in
theorem specLookUp3_any (ss : List Sc) (hv : Valid ss) (hf : FitsScopes ss) (oa : Option Addr) (cap : Nat) (s : Nat) (hs : s < ss.length) (nm : ByteArray) (w : World) (hc : HoldsScopes w oa ss) :
    Calls Tryz.prog 90 #[.agg #[.slice oa ss.length cap], .int .i64 (s : Int), .string nm] w (PlsGot (lookP ss s nm).places w) := by
  have hb0 := (Below.refl w.heap.size w).alloc (Nat.le_refl _) (.cells #[.slice oa ss.length cap] 28)
  have C := Lib.hid (specWay_any ss hv hf oa cap s hs nm _ (hc.below hb0 (Nat.le_refl _)))
  have HB0 := Lib.hid hb0
  clear hv hf hc hb0 hs
  go_enter Tryz.func90, Tryz.ntmps90
  go_wp2_with fail
  refine C.out.mono ?_
  rintro e w1 ⟨u, rfl, hrow, hb⟩
  have HB := Lib.hid (HB0.out.trans (hb.mono HB0.out.size))
  have HR := Lib.hid (ownsRow_lower hrow HB0.out.size)
  clear hb hrow
  go_wp2
  go_ret
  exact ⟨_, rfl, HR.out, HB.out⟩
end Go.Proofs.YtgehpaojbnpbcaaGreatDoor
