/-
  The walks of the declarations of a name in a scope: the given l3Asked, l3Own and OwnOf; impl's (*node).own, lookupIn, lookupOf and OwnOf. Conditions: the argument's memory holds the graph; the package-level errors hold errors.
-/
import Derived.Test.YtadpgoiiopfnnaaDoorWSpecPls
import Derived.Test.YtadpgoiiopfnnaaDoorWNode
namespace Go.Proofs.YtadpgoiiopfnnaaDoor
open Go Go.RowKit Go.Maps
def isOwn (nm : ByteArray) (x : It) : Bool := x.kind == 1 && (x.name.toList == nm.toList)
/-- The places of the declarations of a name among the first k items of scope s. -/
def ownUp (xs : List It) (s : Nat) (nm : ByteArray) : Nat → List (Int × Int)
  | 0 => []
  | k + 1 => ownUp xs s nm k ++ match xs[k]? with
    | some x => if isOwn nm x = true then [((s : Int), (k : Int))] else []
    | none => []
theorem ownUp_snoc {xs : List It} {s k : Nat} {nm : ByteArray} {x : It} (h : xs[k]? = some x) : ownUp xs s nm (k + 1) = ownUp xs s nm k ++ if isOwn nm x = true then [((s : Int), (k : Int))] else [] := by
  show ownUp xs s nm k ++ _ = _
  rw [h]
theorem ownUp_length (xs : List It) (s : Nat) (nm : ByteArray) : ∀ k : Nat, (ownUp xs s nm k).length ≤ k
  | 0 => by simp [ownUp]
  | k + 1 => by
    have h1 := ownUp_length xs s nm k
    have : (match xs[k]? with | some x => if isOwn nm x = true then [((s : Int), (k : Int))] else [] | none => []).length ≤ 1 := by
      split
      · split <;> simp
      · simp
    show (ownUp xs s nm k ++ _).length ≤ k + 1
    rw [List.length_append]
    omega
def itemsP (ss : List Sc) (s : Nat) : List It := (ss[s]?.map Sc.items).getD []
theorem itemsP_of {ss : List Sc} {s : Nat} {c : Sc} (h : ss[s]? = some c) : itemsP ss s = c.items := by unfold itemsP; rw [h]; rfl
/-- The places of the declarations of a name in a scope. -/
def ownP (ss : List Sc) (s : Nat) (nm : ByteArray) : List (Int × Int) := ownUp (itemsP ss s) s nm (itemsP ss s).length
def ownOk (ss : List Sc) (n : Int) (nm : ByteArray) : Prop := HasScope ss n ∧ nameB nm = true
theorem ownP_length {ss : List Sc} (hv : Valid ss) (s : Nat) (nm : ByteArray) : (ownP ss s nm).length ≤ 5 := by
  have h1 := ownUp_length (itemsP ss s) s nm (itemsP ss s).length
  have h2 : (itemsP ss s).length ≤ 5 := by
    unfold itemsP
    cases h : ss[s]? with
    | none => simp
    | some c => simpa using scope_items (hv.scopes s c h)
  unfold ownP
  omega
set_option maxRecDepth 100000 in
set_option maxHeartbeats 1600000 in
theorem specL3Own_any (ss : List Sc) (hv : Valid ss) (oa : Option Addr) (cap : Nat) (s : Nat) (hs : s < ss.length) (nm : ByteArray) (w : World) (hc : HoldsScopes w oa ss) :
    Calls Tryd.prog 166 #[.agg #[.slice oa ss.length cap], .int .i64 s, .string nm] w (PlsGot (ownP ss s nm) w) := by
  obtain ⟨c, hsc⟩ : ∃ c, ss[s]? = some c := ⟨_, List.getElem?_eq_getElem hs⟩
  have hil := scope_items (hv.scopes s c hsc)
  have hn6 := hv.count.2
  obtain ⟨bb, off, rfl, hbb, hcell⟩ := hc.at (by omega)
  obtain ⟨oi, ci, a0, a1, hci⟩ := hcell s c hsc
  have hb0 := ((Below.refl w.heap.size w).alloc (Nat.le_refl _) (.cells #[.slice (some ⟨bb, off, none⟩) ss.length cap] 30)).alloc (by simp) (.cells #[] 34)
  have hR0 := (Row.new w [.slice (some ⟨bb, off, none⟩) ss.length cap] 30).alloc (.cells #[] 34)
  have hown0 : ((w.alloc (.cells #[.slice (some ⟨bb, off, none⟩) ss.length cap] 30)).alloc (.cells #[] 34)).ownsRow w.heap.size 34 2 (.slice (some ⟨w.heap.size + 1, 0, none⟩) 0 0) 0 [] := by
    have h0 := World.ownsRow_made (base := w.heap.size) (e := 34) (size := 2) (w.alloc (.cells #[.slice (some ⟨bb, off, none⟩) ss.length cap] 30)) #[] 0 (by simp) (by unfold maxLen; omega) rfl
    rw [World.size_alloc] at h0
    exact h0
  have HP0 : Hid (PlsAt w ((w.alloc (.cells #[.slice (some ⟨bb, off, none⟩) ss.length cap] 30)).alloc (.cells #[] 34)) (some ⟨bb, off, none⟩) cap ss.length (.slice (some ⟨w.heap.size + 1, 0, none⟩) 0 0) []) := Lib.hid ⟨hR0, hown0, hb0⟩
  have HI := Lib.hid hci
  have HIE := Lib.hid (itemsP_of hsc)
  have g00 := hR0.cell (i := 0) (by rfl)
  have b1 := (hb0.cell (p := ⟨bb, off + s * 2 + 1, none⟩) hbb).trans a1
  clear hv hc hb0 hR0 hown0 hcell hci a0 a1 hsc
  go_enter Tryd.func166, Tryd.ntmps166
  go_wp2
  go_loopw [7, 18] (fun v i wr => ∃ k : Nat, i = .int .i64 k ∧ k ≤ c.items.length ∧ Hid (PlsAt w wr (some ⟨bb, off, none⟩) cap ss.length v (ownUp c.items s nm k))) (fun _ i _ => c.items.length - (intOf i).toNat)
  case atStart => exact ⟨0, rfl, Nat.zero_le _, HP0⟩
  case round =>
    obtain ⟨k, rfl, hk, hP2⟩ := hrel
    by_cases hlt2 : k < c.items.length
    · obtain ⟨x, hx⟩ : ∃ x, c.items[k]? = some x := ⟨_, List.getElem?_eq_getElem hlt2⟩
      obtain ⟨b2, o2, rfl, hb2, hcell2⟩ := HI.out.at (by omega)
      obtain ⟨x0, x1, x2⟩ := hcell2 k x hx
      have y0 := (hP2.out.below.cell (p := ⟨b2, o2 + k * 3, none⟩) hb2).trans x0
      have y1 := (hP2.out.below.cell (p := ⟨b2, o2 + k * 3 + 1, none⟩) hb2).trans x1
      have y2 := (hP2.out.below.cell (p := ⟨b2, o2 + k * 3 + 2, none⟩) hb2).trans x2
      have hbx := (Below.refl wr.heap.size wr).alloc (Nat.le_refl _) (.cells #[.int .i64 x.kind, .string x.name, .int .i64 x.scope] 65)
      have HP3 := Lib.hid (hP2.out.step hbx)
      have hpl := ownUp_length c.items s nm k
      have HST := Lib.hid (ownUp_snoc (s := s) (nm := nm) hx)
      have hbs2 := hP2.out.below.size
      clear hx hcell2 x0 x1 x2 hbx
      cases hq1 : (x.kind == 1) with
      | false =>
        have HE : Hid (ownUp c.items s nm (k + 1) = ownUp c.items s nm k) := Lib.hid (by rw [HST.out]; simp [isOwn, hq1])
        go_wp2
        go_roundw
        case rel => exact ⟨k + 1, by go_num, by omega, by rw [HE.out]; exact HP3⟩
        case measure => simp only [intOf]; omega
      | true =>
        cases hq2 : (x.name.toList == nm.toList) with
        | false =>
          have HE : Hid (ownUp c.items s nm (k + 1) = ownUp c.items s nm k) := Lib.hid (by rw [HST.out]; simp [isOwn, hq2])
          go_wp2
          go_roundw
          case rel => exact ⟨k + 1, by go_num, by omega, by rw [HE.out]; exact HP3⟩
          case measure => simp only [intOf]; omega
        | true =>
          have HE : Hid (ownUp c.items s nm (k + 1) = ownUp c.items s nm k ++ [((s : Int), (k : Int))]) := Lib.hid (by rw [HST.out]; simp [isOwn, hq1, hq2])
          generalize hpe : ownUp c.items s nm k = pre at hpl
          rw [hpe] at HP3 HE
          have hrow3 := HP3.out.row
          obtain ⟨i0, hi0, hz0, hz1, hz2⟩ := info_parts infoPl
          have hbs3 := HP3.out.below.size
          clear hpe
          go_wp2_with (at_builtin; refine wpList_append_own _ rfl _ _ 46 rfl w.heap.size 34 i0 (.agg #[.int .i64 0, .int .i64 0]) 2 16 Tryd.underlying46 hi0 hz0 hz1 hz2 rfl (by decide) _ _ _ rfl (hrow3.alloc _) ⟨wr.heap.size + 1, 0, none⟩ 1 1 [.int .i64 (s : Int), .int .i64 (k : Int)] rfl rfl ?c1 ?c2 ?c3 ?c4 ?c5 ?_)
          all_goals try (case c1 => first | exact cells_new2 _ _ _ _ | (intro j u hu; have h5 := cells_new2 (wr.alloc (.cells #[.int .i64 x.kind, .string x.name, .int .i64 x.scope] 65)) _ _ 34 j u hu; rw [World.size_alloc] at h5; exact h5))
          all_goals try (case c2 => first | (exact ⟨rfl, rfl⟩) | (intro u hu; simp only [List.mem_cons, List.mem_nil_iff, or_false] at hu; rcases hu with rfl | rfl <;> rfl))
          all_goals try (case c3 => unfold maxLen; omega)
          all_goals try (case c4 => omega)
          all_goals try (case c5 => first | omega | (simp only [World.size_alloc]; omega) | (simp; omega))
          intro v' w' hown' hgrow _
          have HP4 : Hid (PlsAt w w' (some ⟨bb, off, none⟩) cap ss.length v' (ownUp c.items s nm (k + 1))) := Lib.hid {
            box := (HP3.out.box.alloc (.cells #[.int .i64 (s : Int), .int .i64 (k : Int)] 34)).grown hgrow (ownsRow_ne2 HP3.out.box (by decide) HP3.out.row)
            row := by rw [HE.out, List.length_append, placeCells_snoc]; exact hown'
            below := HP3.out.below.trans (below_append2 HP3.out.row hgrow (Nat.le_refl w.heap.size) hbs3) }
          clear hown' hgrow hrow3
          go_wp2
          go_roundw
          case rel => exact ⟨k + 1, by go_num, by omega, HP4⟩
          case measure => simp only [intOf]; omega
    · obtain rfl : k = c.items.length := by omega
      go_wp2
      go_ret
      exact ⟨_, rfl, by have := hP2.out.row; unfold ownP; rw [HIE.out]; exact this, hP2.out.below⟩
/-- impl's: numbers as elements of a map. -/
def numR (v : Value) : Option (DataW Unit × List MemPlace) := match v with
  | .int .i64 z => some (.lit (.int .i64 z), [])
  | _ => none
def numD (z : Int) : DataW Unit := .lit (.int .i64 z)
theorem numR_mk (z : Int) : numR (.int .i64 z) = some (numD z, []) := rfl
set_option maxRecDepth 100000 in
theorem lookupIn_any (T : Nat) (w : World) :
    Calls Tryd.prog 96 #[.pointer (some ⟨T, 0, none⟩)] w fun e w' => e = .returned (.pointer (some ⟨w.heap.size + 1, 0, none⟩)) ∧
      Row w' (w.heap.size + 1) 183 [.pointer (some ⟨T, 0, none⟩), .map (some w.heap.size)] ∧ w'.ownsMap Tryd.prog 34 numR w.heap.size 0 (.map []) ∧ Below w.heap.size w w' := by
  have hM := (World.ownsMap_made w Tryd.prog 34 numR).alloc (.cells #[.pointer (some ⟨T, 0, none⟩), .map (some w.heap.size)] 183)
  have hR := Row.new (w.alloc (.map #[] 0)) [.pointer (some ⟨T, 0, none⟩), .map (some w.heap.size)] 183
  rw [World.size_alloc] at hR
  have H := Lib.hid (And.intro hR (And.intro hM (((Below.refl w.heap.size w).alloc (Nat.le_refl _) (.map #[] 0)).alloc (by simp) (.cells #[.pointer (some ⟨T, 0, none⟩), .map (some w.heap.size)] 183))))
  have hmm := @run_makeMap Tryd.prog
  clear hM hR
  go_enter Tryd.func96, Tryd.ntmps96
  go_wp2
  go_ret
  exact ⟨rfl, H.out.1, H.out.2.1, H.out.2.2⟩
/-- A lookup in a tree: its record at L, its map M of targets, nothing in it. -/
structure LookIs (w : World) (L M T : Nat) : Prop where
  box : Row w L 183 [.pointer (some ⟨T, 0, none⟩), .map (some M)]
  map : w.ownsMap Tryd.prog 34 numR M 0 (.map [])
/-- What lookupOf answers. -/
def LookGot (ss : List Sc) (n : Int) (nm : ByteArray) (w : World) (e : Ending) (w' : World) : Prop :=
  (¬ ownOk ss n nm ∧ (∃ tp p, e = .returned (.tuple #[.pointer none, .pointer none, .iface tp p])) ∧ Below w.heap.size w w') ∨
  (ownOk ss n nm ∧ ∃ (i : Nat) (d : Nd) (L M T M1 M2 : Nat) (v : Value) (ds : List Nd), n = (i : Int) ∧ i < ss.length ∧ ds[i]? = some d ∧ e = .returned (.tuple #[.pointer (some ⟨L, 0, none⟩), .pointer (some ⟨d.blk, 0, none⟩), .nilIface]) ∧ Below w.heap.size w w' ∧ TreeIs w' w.heap.size T M1 M2 v ds ss ∧ LookIs w' L M T ∧ w.heap.size ≤ L ∧ w.heap.size ≤ M ∧ M1 ≠ M ∧ M2 ≠ M)
/-- The package-level errors of lookups hold errors. -/
structure NameErrs (w : World) : Prop where
  nodes : NodeErrs w
  name : IsErr w 1
theorem NameErrs.at {w w' : World} (h : NameErrs w) (hb : Below w.heap.size w w') : NameErrs w' where
  nodes := h.nodes.at hb
  name := h.name.below hb (Nat.lt_of_lt_of_le (by decide) h.nodes.trees.size)
set_option maxRecDepth 100000 in
theorem lookupOf_any (ss : List Sc) (hF : Fair ss) (oa : Option Addr) (cap : Nat) (n : Int) (nm : ByteArray) (w : World) (hc : HoldsScopes w oa ss) (hE : NameErrs w) :
    Calls Tryd.prog 94 #[.agg #[.slice oa ss.length cap], .int .i64 n, .string nm] w (LookGot ss n nm w) := by
  have hb0 := (Below.refl w.heap.size w).alloc (Nat.le_refl _) (.cells #[.slice oa ss.length cap] 30)
  have C := Lib.hid (nodeOf_any ss hF oa cap n _ (hc.below hb0 (Nat.le_refl _)) (hE.at hb0).nodes)
  have HB0 := Lib.hid hb0
  obtain ⟨tn, pn, hen⟩ := (hE.at hb0).name
  clear hF hc hE hb0
  go_enter Tryd.func94, Tryd.ntmps94
  go_wp2_with fail
  refine (isName_any nm _).mono ?_
  rintro e w0 ⟨rfl, rfl⟩
  cases hq : nameB nm with
  | false =>
    have HN : Hid (¬ ownOk ss n nm) := Lib.hid (fun h => by rw [h.2] at hq; cases hq)
    clear hq
    go_wp2
    go_region
    all_goals go_wp2
    all_goals go_ret3
    all_goals exact .inl ⟨HN.out, ⟨tn, pn, rfl⟩, HB0.out.drew⟩
  | true =>
    have HQ := Lib.hid hq
    clear hq
    go_wp2_with fail
    refine C.out.mono ?_
    rintro e w1 (⟨hv, ⟨tp, p, rfl⟩, hb⟩ | ⟨hv, s, d, T, M1, M2, v, ds, rfl, hs, hd, rfl, hb, hT⟩)
    · have HN : Hid (¬ ownOk ss n nm) := Lib.hid (fun h => hv h.1)
      have HB := Lib.hid (HB0.out.trans (hb.mono HB0.out.size))
      clear hv hb
      go_wp2
      go_ret3
      exact .inl ⟨HN.out, ⟨tp, p, rfl⟩, HB.out⟩
    · have HO : Hid (ownOk ss (s : Int) nm) := Lib.hid ⟨⟨hv, by omega, by omega⟩, HQ.out⟩
      have HB := Lib.hid (HB0.out.trans (hb.mono HB0.out.size))
      have HT := Lib.hid hT
      have HD := Lib.hid hd
      have HS := Lib.hid hs
      clear hv hb hT hd hs
      go_wp2_with fail
      refine (lookupIn_any T _).mono ?_
      rintro e w2 ⟨rfl, hR, hM, hb2⟩
      have HB2 := Lib.hid (HB.out.trans (hb2.mono HB.out.size))
      have HT2 := Lib.hid ((HT.out.below hb2).lower (show w.heap.size ≤ _ from by simp))
      have HL := Lib.hid (LookIs.mk hR hM)
      clear hR hM hb2
      go_wp2
      go_ret3
      exact .inr ⟨HO.out, s, d, _, _, T, M1, M2, v, ds, rfl, HS.out, HD.out, rfl, HB2.out, HT2.out, HL.out, Nat.le_trans HB.out.size (Nat.le_succ _), HB.out.size, by obtain ⟨_, h⟩ := HT.out.items; have := h.lt; omega, by obtain ⟨_, h⟩ := HT.out.mods; have := h.lt; omega⟩
set_option maxRecDepth 100000 in
set_option maxHeartbeats 1600000 in
theorem own_any {ss : List Sc} (hv : Valid ss) {w : World} {B T M1 M2 : Nat} {v : Value} {ds : List Nd} (hT : TreeIs w B T M1 M2 v ds ss) {s : Nat} {d : Nd} (hd : ds[s]? = some d) (nm : ByteArray) :
    Calls Tryd.prog 158 #[.pointer (some ⟨d.blk, 0, none⟩), .string nm] w (PlsGot (ownP ss s nm) w) := by
  have hs : s < ss.length := by have := (List.getElem?_eq_some_iff.1 hd).1; have := hT.hold.len; omega
  obtain ⟨c, hsc⟩ : ∃ c, ss[s]? = some c := ⟨_, List.getElem?_eq_getElem hs⟩
  have hil := scope_items (hv.scopes s c hsc)
  have hn6 := hv.count.2
  obtain ⟨oi, ci, hdi, hci⟩ := hT.hold.items s d c hd hsc
  have nk := hT.tree.node s d hd
  have n0 := nk.2.cell (i := 0) (v := .int .i64 (s : Int)) (by rfl)
  have n2 := nk.2.cell (i := 2) (v := d.items) (by rfl)
  rw [hdi] at n2
  have HNK : Hid (Row w d.blk 166 (d.cells s)) := Lib.hid nk.2
  have HI := Lib.hid hci
  have HIE := Lib.hid (itemsP_of hsc)
  clear hv hT hd hsc hdi hci nk
  go_enter Tryd.func158, Tryd.ntmps158
  go_wp2
  go_loopw [5, 13] (fun v i wr => ∃ k : Nat, i = .int .i64 k ∧ k ≤ c.items.length ∧ Hid (wr.ownsRow w.heap.size 34 2 v (ownUp c.items s nm k).length (placeCells (ownUp c.items s nm k)) ∧ Below w.heap.size w wr)) (fun _ i _ => c.items.length - (intOf i).toNat)
  case atStart => exact ⟨0, rfl, Nat.zero_le _, Lib.hid ⟨World.ownsRow_nil _ _ _ _, Below.refl _ _⟩⟩
  case round =>
    obtain ⟨k, rfl, hk, hP2⟩ := hrel
    by_cases hlt2 : k < c.items.length
    · obtain ⟨x, hx⟩ : ∃ x, c.items[k]? = some x := ⟨_, List.getElem?_eq_getElem hlt2⟩
      obtain ⟨b2, o2, rfl, hb2, hcell2⟩ := HI.out.at (by omega)
      obtain ⟨x0, x1, x2⟩ := hcell2 k x hx
      have y0 := (hP2.out.2.cell (p := ⟨b2, o2 + k * 3, none⟩) hb2).trans x0
      have y1 := (hP2.out.2.cell (p := ⟨b2, o2 + k * 3 + 1, none⟩) hb2).trans x1
      have y2 := (hP2.out.2.cell (p := ⟨b2, o2 + k * 3 + 2, none⟩) hb2).trans x2
      have hbx := (Below.refl wr.heap.size wr).alloc (Nat.le_refl _) (.cells #[.int .i64 x.kind, .string x.name, .int .i64 x.scope] 65)
      have HP3 := Lib.hid (And.intro (hP2.out.1.alloc (.cells #[.int .i64 x.kind, .string x.name, .int .i64 x.scope] 65)) (hP2.out.2.trans (hbx.mono hP2.out.2.size)))
      have m0 := (HNK.out.below HP3.out.2 HNK.out.lt).cell (i := 0) (v := .int .i64 (s : Int)) (by rfl)
      have hpl := ownUp_length c.items s nm k
      have HST := Lib.hid (ownUp_snoc (s := s) (nm := nm) hx)
      have hbs2 := hP2.out.2.size
      clear hx hcell2 x0 x1 x2 hbx
      cases hq1 : (x.kind == 1) with
      | false =>
        have HE : Hid (ownUp c.items s nm (k + 1) = ownUp c.items s nm k) := Lib.hid (by rw [HST.out]; simp [isOwn, hq1])
        go_wp2
        go_roundw
        case rel => exact ⟨k + 1, by go_num, by omega, by rw [HE.out]; exact HP3⟩
        case measure => simp only [intOf]; omega
      | true =>
        cases hq2 : (x.name.toList == nm.toList) with
        | false =>
          have HE : Hid (ownUp c.items s nm (k + 1) = ownUp c.items s nm k) := Lib.hid (by rw [HST.out]; simp [isOwn, hq2])
          go_wp2
          go_roundw
          case rel => exact ⟨k + 1, by go_num, by omega, by rw [HE.out]; exact HP3⟩
          case measure => simp only [intOf]; omega
        | true =>
          have HE : Hid (ownUp c.items s nm (k + 1) = ownUp c.items s nm k ++ [((s : Int), (k : Int))]) := Lib.hid (by rw [HST.out]; simp [isOwn, hq1, hq2])
          generalize hpe : ownUp c.items s nm k = pre at hpl
          rw [hpe] at HP3 HE
          have hrow3 := HP3.out.1
          obtain ⟨i0, hi0, hz0, hz1, hz2⟩ := info_parts infoPl
          have hbs3 := HP3.out.2.size
          clear hpe
          go_wp2_with (at_builtin; refine wpList_append_own _ rfl _ _ 46 rfl w.heap.size 34 i0 (.agg #[.int .i64 0, .int .i64 0]) 2 16 Tryd.underlying46 hi0 hz0 hz1 hz2 rfl (by decide) _ _ _ rfl (hrow3.alloc _) ⟨wr.heap.size + 1, 0, none⟩ 1 1 [.int .i64 (s : Int), .int .i64 (k : Int)] rfl rfl ?c1 ?c2 ?c3 ?c4 ?c5 ?_)
          all_goals try (case c1 => first | exact cells_new2 _ _ _ _ | (intro j u hu; have h5 := cells_new2 (wr.alloc (.cells #[.int .i64 x.kind, .string x.name, .int .i64 x.scope] 65)) _ _ 34 j u hu; rw [World.size_alloc] at h5; exact h5))
          all_goals try (case c2 => first | (exact ⟨rfl, rfl⟩) | (intro u hu; simp only [List.mem_cons, List.mem_nil_iff, or_false] at hu; rcases hu with rfl | rfl <;> rfl))
          all_goals try (case c3 => unfold maxLen; omega)
          all_goals try (case c4 => omega)
          all_goals try (case c5 => first | omega | (simp only [World.size_alloc]; omega) | (simp; omega))
          intro v' w' hown' hgrow _
          have HP4 : Hid (w'.ownsRow w.heap.size 34 2 v' (ownUp c.items s nm (k + 1)).length (placeCells (ownUp c.items s nm (k + 1))) ∧ Below w.heap.size w w') := Lib.hid
            ⟨by rw [HE.out, List.length_append, placeCells_snoc]; exact hown', HP3.out.2.trans (below_append2 HP3.out.1 hgrow (Nat.le_refl w.heap.size) hbs3)⟩
          clear hown' hgrow hrow3
          go_wp2
          go_roundw
          case rel => exact ⟨k + 1, by go_num, by omega, HP4⟩
          case measure => simp only [intOf]; omega
    · obtain rfl : k = c.items.length := by omega
      go_wp2
      go_ret
      exact ⟨_, rfl, by have := hP2.out.1; unfold ownP; rw [HIE.out]; exact this, hP2.out.2⟩
end Go.Proofs.YtadpgoiiopfnnaaDoor
