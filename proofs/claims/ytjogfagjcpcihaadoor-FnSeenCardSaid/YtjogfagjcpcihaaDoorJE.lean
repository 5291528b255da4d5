/-
  The walk of impl's (*lookup).importsOf, where the targets of the scope's items are told. The walks of impl's (*lookup).imported and way.from, where the targets of the scope's items are told. The walk of impl's (*lookup).find, where the targets of the items of the scopes on the way are told. The walks of impl's (*lookup).meantBy, (*tree).moduleAlone and (*lookup).target: what an import brings in, by strong induction on its scope's number. The walk of impl's PlacesOf. Conditions: the argument's memory holds the graph; the package-level errors hold errors. The walks of impl's (*lookup).meaning, resolutionOf and (*resolution).state. Conditions: the argument's memory holds the graph; the package-level errors hold errors. The walks of ImportTarget, the given one's and impl's. Conditions: the argument's memory holds the graph; the package-level errors hold errors. The walks of impl's (*resolution).state, ResolveItem and StateOf. Conditions: the argument's memory holds the graph; the package-level errors hold errors. The declarations that are seen from a scope, as plain data; the walks of the given l5In, l5Sees and SeenFrom. Condition: the argument's memory holds the graph. Where the items of a graph without an item stand; which items mean something else then, as plain data. Plain facts. The walks of the given l6After and PlaceAfter and of impl's PlaceAfter: where a place stands behind a removal. No conditions. Where the items of a graph with an item more stand. What items mean something else between two graphs, as plain data. Plain facts. What items mean something else when one is removed, added or moved: the same lists told in two ways. Plain facts. The walks of impl's slices.Equal at places and of (*comparison).same: whether an item means the same before and after, where it is told where each declaration stands. Conditions: two resolutions lie in memory; the function that is asked answers as is told. The walk of impl's (*comparison).same: whether an item means the same before and after, where it is told where each declaration stands. Conditions: two resolutions lie in memory; the function that is asked answers as is told.
-/
import Derived.Test.YtjogfagjcpcihaaDoorJD
import Derived.Test.YtjogfagjcpcihaaDoorJB
import Derived.WalkMore
import Derived.BigQuiet
import Derived.Deep.RegionHeld3
import Derived.Test.YtjogfagjcpcihaaDoorJA
import Derived.Test.YtjogfagjcpcihaaDoorJC
import Derived.Maps.AppendAt
import Derived.Test.YtjogfagjcpcihaaDoorBase
namespace Go.Proofs.YtjogfagjcpcihaaDoor
open Go Go.RowKit Go.Maps
attribute [local go_sem ↓] field_kind field_name field_scope
/-- What target answers at the items of a scope. -/
def TargetC (B L M T M1 M2 : Nat) (v : Value) (ds : List Nd) (ss : List Sc) (s : Nat) : Prop :=
  ∀ (j : Nat), IsItem ss (s, j) → ∀ W : World, LookW W B L M T M1 M2 v ds ss →
    Calls Tryd.prog 149 #[.pointer (some ⟨L, 0, none⟩), .agg #[.int .i64 (s : Int), .int .i64 (j : Int)]] W fun e w' => e = .returned (.int .i64 (tgt ss (s, j))) ∧ Left W w' B L M T M1 M2 v ds ss
/-- What a call leaves beside the lookup: a list of numbers of its own. -/
def NumsLeft (l : List Nat) (w : World) (B L M T M1 M2 : Nat) (v : Value) (ds : List Nd) (ss : List Sc) (e : Ending) (w' : World) : Prop :=
  ∃ u, e = .returned u ∧ w'.ownsRow w.heap.size 3 1 u l.length (numVals l) ∧ Left w w' B L M T M1 M2 v ds ss
theorem Memo.same {w w' : World} {M : Nat} {ss : List Sc} (h : Memo w M ss) (hb : w'.heap[M]? = w.heap[M]?) : Memo w' M ss := by
  obtain ⟨l, h1, h2, es, clock, hh, r⟩ := h
  exact ⟨l, h1, h2, es, clock, hb.trans hh, r⟩
/-- What turns blocks of the call's own alone. -/
theorem Left.far {w W W' : World} {B L M T M1 M2 : Nat} {v : Value} {ds : List Nd} {ss : List Sc} (hL : LookW w B L M T M1 M2 v ds ss) (h : Left w W B L M T M1 M2 v ds ss) (hb : Below w.heap.size W W') : Left w W' B L M T M1 M2 v ds ss :=
  have ht : Turns w W' M M := ⟨hb.os.trans h.turns.os, hb.tape.trans h.turns.tape, hb.output.trans h.turns.output, Nat.le_trans h.turns.size hb.size, fun g hg h1 h2 => (hb.block g hg).trans (h.turns.rest g hg h1 h2)⟩
  ⟨hL.turned ht (h.look.memo.same (hb.block M hL.memo.lt)), ht⟩
theorem ownsRow_left {W W' : World} {base n size B L M T M1 M2 : Nat} {v : Value} {ds : List Nd} {ss : List Sc} {e : TypeId} {u : Value} {xs : List Value} (h : W.ownsRow base e size u n xs) (hL : LookW W B L M T M1 M2 v ds ss) (ht : Left W W' B L M T M1 M2 v ds ss) : W'.ownsRow base e size u n xs := ownsRow_turned h ht.turns hL.memo
set_option maxRecDepth 100000 in
set_option maxHeartbeats 4000000 in
theorem importsOf_any {ss : List Sc} (hv : Valid ss) {w : World} {B L M T M1 M2 : Nat} {v : Value} {ds : List Nd} (hL : LookW w B L M T M1 M2 v ds ss) {s : Nat} {d : Nd} (hd : ds[s]? = some d) (hT : TargetC B L M T M1 M2 v ds ss s) :
    Calls Tryd.prog 136 #[.pointer (some ⟨L, 0, none⟩), .pointer (some ⟨d.blk, 0, none⟩)] w (NumsLeft (impP ss s) w B L M T M1 M2 v ds ss) := by
  have hs : s < ss.length := by have := (List.getElem?_eq_some_iff.1 hd).1; have := hL.tree.hold.len; omega
  obtain ⟨c, hsc⟩ : ∃ c, ss[s]? = some c := ⟨_, List.getElem?_eq_getElem hs⟩
  have hil := hv.five c (List.mem_of_getElem? hsc)
  obtain ⟨oi, ci, hdi, hci⟩ := hL.tree.hold.items s d c hd hsc
  have nk := hL.tree.tree.node s d hd
  have n2 := nk.2.cell (i := 2) (v := d.items) (by rfl)
  rw [hdi] at n2
  have HIE : Hid (impP ss s = impUp ss (impP ss) s c.items c.items.length) := Lib.hid (by rw [impP_eq hv.climbs]; unfold impF; rw [itemsP_of hsc])
  have HV := Lib.hid hv
  have HL0 := Lib.hid hL
  have HT := Lib.hid hT
  have HD := Lib.hid hd
  have HSC := Lib.hid hsc
  have HCI := Lib.hid hci
  clear hv hL hT hd hsc hci nk hdi
  go_enter Tryd.func136, Tryd.ntmps136
  go_wp2
  go_loopw [5, 14] (fun u i wr => ∃ k : Nat, i = .int .i64 k ∧ k ≤ c.items.length ∧ Hid (wr.ownsRow w.heap.size 3 1 u (impUp ss (impP ss) s c.items k).length (numVals (impUp ss (impP ss) s c.items k)) ∧ Left w wr B L M T M1 M2 v ds ss)) (fun _ i _ => c.items.length - (intOf i).toNat)
  case atStart => exact ⟨0, rfl, Nat.zero_le _, Lib.hid ⟨World.ownsRow_nil _ _ _ _, HL0.out.left⟩⟩
  case round =>
    obtain ⟨k, rfl, hk, hP⟩ := hrel
    by_cases hlt : k < c.items.length
    · obtain ⟨x, hx⟩ : ∃ x, c.items[k]? = some x := ⟨_, List.getElem?_eq_getElem hlt⟩
      obtain ⟨b2, o2, rfl, hb2, hcell2⟩ := HCI.out.at (by omega)
      obtain ⟨x0, x1, x2⟩ := hcell2 k x hx
      have HCK := Lib.hid (hP.out.2.turns.cellsM HL0.out.memo)
      have y0 := HCK.out.cell hb2 x0
      have y1 := HCK.out.cell hb2 x1
      have y2 := HCK.out.cell hb2 x2
      have hbi := (Below.refl wr.heap.size wr).alloc (Nat.le_refl _) (.cells #[.int .i64 x.kind, .string x.name, .int .i64 x.scope] 42)
      have HLI := Lib.hid (hP.out.2.step hbi)
      have HUI := Lib.hid (ownsRow_below hP.out.1 hbi)
      have m0 := ((HLI.out.look.tree.tree.node s d HD.out).2.cell (i := 0) (v := .int .i64 (s : Int)) (by rfl))
      have hul := impUp_length (ss := ss) s c.items k
      have HST := Lib.hid (impUp_snoc (ss := ss) (imps := impP ss) (s := s) hx)
      have HQI : Hid (IsItem ss (s, k)) := Lib.hid ⟨c, x, HSC.out, hx⟩
      have HTG := Lib.hid (tgt_of HSC.out hx)
      clear hx hcell2 x0 x1 x2 hbi
      by_cases hkd : x.kind = 3
      · have hq : (x.kind == 3) = true := by simpa using hkd
        have HKD := Lib.hid hkd
        have C := Lib.hid (HT.out k HQI.out _ HLI.out.look)
        clear hkd
        go_wp2_with fail
        refine C.out.mono ?_
        rintro e w3 ⟨rfl, hl3⟩
        have HU3 := Lib.hid (ownsRow_left HUI.out HLI.out.look hl3)
        have HL3 := Lib.hid (HLI.out.trans hl3)
        obtain ⟨ou, cu, rfl, hh3⟩ := holdsInts_of_owns HU3.out
        have HH3 := Lib.hid hh3
        have HNL : Hid ((natInts (impUp ss (impP ss) s c.items k)).length < 2 ^ 40) := Lib.hid (by rw [natInts_length]; omega)
        clear hl3 hh3 m0 y0 y1 y2
        rw [HTG.out]
        rcases target_ok HV.out s x.name with ht | ⟨m, ht, hm⟩
        · have HE : Hid (impUp ss (impP ss) s c.items (k + 1) = impUp ss (impP ss) s c.items k) := Lib.hid (by rw [HST.out, impStep_none ht])
          rw [ht]
          go_wp2
          go_roundw
          case rel => exact ⟨k + 1, by go_num, by omega, Lib.hid (by rw [HE.out]; exact ⟨HU3.out, HL3.out⟩)⟩
          case measure => simp only [intOf]; omega
        · rw [ht]
          go_wp2_with fail
          refine (contains_any (natInts (impUp ss (impP ss) s c.items k)) ou cu (m : Int) _ HNL.out HH3.out).mono ?_
          rintro e w5 ⟨rfl, hb5⟩
          have HL5 := Lib.hid (HL3.out.step hb5)
          have HU5 := Lib.hid (ownsRow_below HU3.out hb5)
          obtain ⟨q, hq2⟩ : ∃ q, decide ((m : Int) ∈ natInts (impUp ss (impP ss) s c.items k)) = q := ⟨_, rfl⟩
          rw [hq2]
          have HQ := Lib.hid hq2
          clear hb5 hq2
          cases q
          · have HNI : Hid (m ∉ impUp ss (impP ss) s c.items k) := Lib.hid (fun h => by have := HQ.out; simp [mem_natInts.2 h] at this)
            have HE : Hid (impUp ss (impP ss) s c.items (k + 1) = impUp ss (impP ss) s c.items k ++ [m]) := Lib.hid (by rw [HST.out, impStep_new HKD.out ht HNI.out])
            obtain ⟨i0, hi0, hz0, hz1, hz2⟩ := info_parts infoInt
            have hbs5 := HL5.out.turns.size
            go_wp2_with (at_builtin; refine wpList_append_own _ rfl _ _ 28 rfl w.heap.size 3 i0 (.int .i64 0) 1 8 Tryd.underlying28 hi0 hz0 hz1 hz2 rfl (by decide) _ _ _ rfl (HU5.out.alloc _) ⟨w5.heap.size, 0, none⟩ 1 1 [.int .i64 (m : Int)] rfl rfl ?c1 ?c2 ?c3 ?c4 ?c5 ?_)
            case c1 => exact cells_new _ _ _
            case c2 => intro u hu; simp only [List.mem_singleton] at hu; subst hu; rfl
            case c3 => unfold maxLen; omega
            case c4 => omega
            case c5 => simp only [World.size_alloc]; omega
            intro v' w6 hown' hgrow _
            have HL6 := Lib.hid (Left.far HL0.out HL5.out (below_append2 HU5.out hgrow (Nat.le_refl w.heap.size) hbs5))
            have HU6 := Lib.hid hown'
            clear hown' hgrow
            go_wp2
            go_roundw
            case rel => exact ⟨k + 1, by go_num, by omega, Lib.hid (by rw [HE.out, List.length_append, numVals_snoc]; exact ⟨HU6.out, HL6.out⟩)⟩
            case measure => simp only [intOf]; omega
          · have HNI : Hid (m ∈ impUp ss (impP ss) s c.items k) := Lib.hid (mem_natInts.1 (by have := HQ.out; simpa using this))
            have HE : Hid (impUp ss (impP ss) s c.items (k + 1) = impUp ss (impP ss) s c.items k) := Lib.hid (by rw [HST.out, impStep_in ht HNI.out])
            go_wp2
            go_roundw
            case rel => exact ⟨k + 1, by go_num, by omega, Lib.hid (by rw [HE.out]; exact ⟨HU5.out, HL5.out⟩)⟩
            case measure => simp only [intOf]; omega
      · have hq : (x.kind == 3) = false := by simpa using hkd
        have HE : Hid (impUp ss (impP ss) s c.items (k + 1) = impUp ss (impP ss) s c.items k) := Lib.hid (by rw [HST.out, impStep_other hkd])
        clear hkd
        go_wp2
        go_roundw
        case rel => exact ⟨k + 1, by go_num, by omega, Lib.hid (by rw [HE.out]; exact ⟨HUI.out, HLI.out⟩)⟩
        case measure => simp only [intOf]; omega
    · obtain rfl : k = c.items.length := by omega
      go_wp2
      go_ret
      exact ⟨_, rfl, by rw [HIE.out]; exact hP.out.1, hP.out.2⟩
end Go.Proofs.YtjogfagjcpcihaaDoor
namespace Go.Proofs.YtjogfagjcpcihaaDoor
open Go Go.RowKit Go.Maps
/-- What a call leaves beside the lookup: a list of places of its own. -/
def PlsLeft (l : List (Int × Int)) (w : World) (B L M T M1 M2 : Nat) (v : Value) (ds : List Nd) (ss : List Sc) (e : Ending) (w' : World) : Prop :=
  ∃ u, e = .returned u ∧ w'.ownsRow w.heap.size 32 2 u l.length (placeCells l) ∧ Left w w' B L M T M1 M2 v ds ss
set_option maxRecDepth 100000 in
set_option maxHeartbeats 4000000 in
theorem imported_any {ss : List Sc} (hv : Valid ss) {w : World} {B L M T M1 M2 : Nat} {v : Value} {ds : List Nd} (hL : LookW w B L M T M1 M2 v ds ss) {s : Nat} {d : Nd} (hd : ds[s]? = some d) (hT : TargetC B L M T M1 M2 v ds ss s) (nm : ByteArray) :
    Calls Tryd.prog 122 #[.pointer (some ⟨L, 0, none⟩), .pointer (some ⟨d.blk, 0, none⟩), .string nm] w (PlsLeft (fromP ss (impP ss s) nm) w B L M T M1 M2 v ds ss) := by
  have C := Lib.hid (importsOf_any hv hL hd hT)
  have HV := Lib.hid hv
  have HL0 := Lib.hid hL
  clear hv hL hd hT
  go_enter Tryd.func122, Tryd.ntmps122
  go_wp2_with fail
  refine C.out.mono ?_
  rintro e w1 ⟨u1, rfl, hrow1, hl1⟩
  obtain ⟨o1, c1, rfl, hh1⟩ := holdsInts_of_owns hrow1
  have HL1 := Lib.hid hl1
  have HI := Lib.hid hh1
  have hn6 : (natInts (impP ss s)).length ≤ 5 := by rw [natInts_length]; exact impP_length HV.out s
  have HN : Hid ((natInts (impP ss s)).length = (impP ss s).length) := Lib.hid (natInts_length _)
  have HOK := Lib.hid (impP_ok HV.out s).1
  have hs6 := HV.out.count.2
  have HLEN : Hid (ds.length = ss.length) := Lib.hid HL0.out.tree.hold.len
  clear hrow1 hl1 hh1
  go_wp2
  go_loopw [7, 14] (fun u i wr => ∃ k : Nat, i = .int .i64 k ∧ k ≤ (natInts (impP ss s)).length ∧ Hid (wr.ownsRow w1.heap.size 32 2 u (fromP ss ((impP ss s).take k) nm).length (placeCells (fromP ss ((impP ss s).take k) nm)) ∧ Left w wr B L M T M1 M2 v ds ss ∧ Below w1.heap.size w1 wr)) (fun _ i _ => (natInts (impP ss s)).length - (intOf i).toNat)
  case atStart => exact ⟨0, rfl, Nat.zero_le _, Lib.hid ⟨World.ownsRow_nil _ _ _ _, HL1.out, Below.refl _ _⟩⟩
  case round =>
    obtain ⟨k, rfl, hk, hP⟩ := hrel
    by_cases hlt : k < (natInts (impP ss s)).length
    · obtain ⟨x, hx⟩ : ∃ x, (impP ss s)[k]? = some x := ⟨_, List.getElem?_eq_getElem (by rw [HN.out] at hlt; exact hlt)⟩
      have hxi : (natInts (impP ss s))[k]? = some (x : Int) := by unfold natInts; rw [List.getElem?_map, hx]; rfl
      obtain ⟨b1, f1, rfl, hb1, q1⟩ := HI.out.at (by omega)
      have a0 := (hP.out.2.2.cell (p := ⟨b1, f1 + k, none⟩) hb1).trans (q1 k _ hxi)
      have hxl := HOK.out x (List.mem_of_getElem? hx)
      obtain ⟨dx, hdx⟩ : ∃ e, ds[x]? = some e := ⟨_, List.getElem?_eq_getElem (by rw [HLEN.out]; exact hxl)⟩
      have hTr := hP.out.2.1.look.tree
      obtain ⟨g, cap', rfl, hgB, hg, hslot⟩ := hTr.tree.slot (by intro e; rw [e] at hdx; simp at hdx)
      have s0 := hslot x dx hdx
      unfold Nd.ptr at s0
      have t0 := hTr.tree.box.cell (i := 0) (by rfl)
      have l0 := hP.out.2.1.look.box.cell (i := 0) (by rfl)
      have hdl : ds.length = ss.length := HLEN.out
      have C2 := Lib.hid (own_any HV.out hTr hdx nm)
      have HTK : Hid (fromP ss ((impP ss s).take (k + 1)) nm = fromP ss ((impP ss s).take k) nm ++ ownP ss x nm) := Lib.hid (by rw [List.take_add_one, hx]; exact fromP_snoc _ _ _ _)
      have hfl : (fromP ss ((impP ss s).take k) nm).length ≤ 30 := by
        have h1 := fromP_length HV.out nm ((impP ss s).take k)
        rw [List.length_take] at h1
        have h2 := HN.out
        omega
      have hol := ownP_length HV.out x nm
      clear hx hxi q1 hTr hslot hdx
      go_wp2_with fail
      refine C2.out.mono ?_
      rintro e w2 ⟨u, rfl, hu, hb2⟩
      have HU2 := Lib.hid (ownsRow_below hP.out.1 hb2)
      have HL2 := Lib.hid (hP.out.2.1.step hb2)
      have HB2 := Lib.hid (hP.out.2.2.trans (hb2.mono hP.out.2.2.size))
      obtain ⟨v', w3, hrun, hown', hgrow⟩ := append_places HU2.out hu (by omega) HB2.out.size 46
      have HL3 := Lib.hid (Left.far HL0.out HL2.out (grown_below HU2.out hgrow HL1.out.turns.size HL2.out.turns.size))
      have HB3 := Lib.hid (HB2.out.trans (grown_below HU2.out hgrow (Nat.le_refl _) HB2.out.size))
      have HU3 : Hid (w3.ownsRow w1.heap.size 32 2 v' (fromP ss ((impP ss s).take (k + 1)) nm).length (placeCells (fromP ss ((impP ss s).take (k + 1)) nm))) := Lib.hid (by rw [HTK.out, List.length_append, placeCells_append]; exact hown')
      have HRUN := Lib.hid hrun
      clear hown' hgrow hu hb2 hrun
      go_wp2_with (at_builtin; refine wpList_append_run rfl _ _ 46 rfl HRUN.out ?_)
      go_wp2
      go_roundw
      case rel => exact ⟨k + 1, by go_num, by omega, Lib.hid ⟨HU3.out, HL3.out, HB3.out⟩⟩
      case measure => simp only [intOf]; omega
    · obtain rfl : k = (natInts (impP ss s)).length := by omega
      have HE : Hid ((impP ss s).take (natInts (impP ss s)).length = impP ss s) := Lib.hid (by rw [HN.out, List.take_length])
      go_wp2
      go_ret
      exact ⟨_, rfl, by have := hP.out.1; rw [HE.out] at this; exact ownsRow_lower this HL1.out.turns.size, hP.out.2.1⟩
/-- What a way answers. -/
def wayP (ss : List Sc) (s : Nat) (nm : ByteArray) : Nat → List (Int × Int)
  | 1 => ownP ss s nm
  | _ => fromP ss (impP ss s) nm
set_option maxRecDepth 100000 in
theorem wayFrom_any {ss : List Sc} (hv : Valid ss) {w : World} {B L M T M1 M2 : Nat} {v : Value} {ds : List Nd} (hL : LookW w B L M T M1 M2 v ds ss) {s : Nat} {d : Nd} (hd : ds[s]? = some d) (hT : TargetC B L M T M1 M2 v ds ss s) (nm : ByteArray) (y : Nat) (hy : y = 1 ∨ y = 2) :
    Calls Tryd.prog 105 #[.int .i64 (y : Int), .pointer (some ⟨L, 0, none⟩), .pointer (some ⟨d.blk, 0, none⟩), .string nm] w (PlsLeft (wayP ss s nm y) w B L M T M1 M2 v ds ss) := by
  have C1 := Lib.hid (own_any hv hL.tree hd nm)
  have C2 := Lib.hid (imported_any hv hL hd hT nm)
  have HL0 := Lib.hid hL
  clear hv hL hd hT
  rcases hy with rfl | rfl
  · go_enter Tryd.func105, Tryd.ntmps105
    go_wp2_with fail
    refine C1.out.mono ?_
    rintro e w1 ⟨u, rfl, hu, hb⟩
    have HU := Lib.hid hu
    have HL1 := Lib.hid (HL0.out.left.step hb)
    clear hu hb
    go_wp2
    go_ret
    exact ⟨_, rfl, HU.out, HL1.out⟩
  · go_enter Tryd.func105, Tryd.ntmps105
    go_wp2_with fail
    refine C2.out.mono ?_
    rintro e w1 ⟨u, rfl, hu, hl⟩
    have HU := Lib.hid hu
    have HL1 := Lib.hid hl
    clear hu hl
    go_wp2
    go_ret
    exact ⟨_, rfl, HU.out, HL1.out⟩
end Go.Proofs.YtjogfagjcpcihaaDoor
namespace Go.Proofs.YtjogfagjcpcihaaDoor
open Go Go.RowKit Go.Maps
attribute [local go_sem] Oper.semAt_some
/-- A node with its number, which is one of these. -/
abbrev NdIn (ds : List Nd) (cl : List Nat) := { q : Nat × Nd // ds[q.1]? = some q.2 ∧ q.1 ∈ cl }
def NdIn.num {ds : List Nd} {cl : List Nat} (x : NdIn ds cl) : Nat := x.1.1
set_option maxRecDepth 100000 in
set_option maxHeartbeats 4000000 in
theorem outward1_inC (n : Nat) (hn : 1 ≤ n) (l Bn B T M1 M2 : Nat) (v : Value) (ds : List Nd) (ss : List Sc) (w0 : World) (hT : Tree w0 B T M1 M2 v ds) (hP : Pars ds ss) (hC : Climbs ss) (hl : ds.length = ss.length) (s : Nat) (d : Nd) (hd : ds[s]? = some d)
    (J Jx : List (NdIn ds (chainP ss s)) → World → Prop) (W : World)
    (hY : ∀ pre x W1, J pre W1 → CellsKept w0.heap.size w0 W1 → pre.length < (chainP ss s).length → YieldAt Fence.wide (n - 1) Tryd.prog l (ndArgs x.1.2) W1 fun e W' =>
      (e = .returned (.bool true) ∧ J (pre ++ [x]) W' ∧ CellsKept w0.heap.size W1 W') ∨ (e = .returned (.bool false) ∧ Jx (pre ++ [x]) W'))
    (hk : CellsKept w0.heap.size w0 W) (hBn : W.cell? ⟨Bn, 0, none⟩ = some (.pointer (some ⟨d.blk, 0, none⟩))) (h0 : J [] W) :
    CallsIn Fence.wide n Tryd.prog 96 #[.func (.yield l) #[] #[], .pointer (some ⟨Bn, 0, none⟩)] W fun e W' => (∃ v, e = .returned v) ∧
      ((∃ ys : List (NdIn ds (chainP ss s)), ys.map NdIn.num = chainP ss s ∧ J ys W') ∨ (∃ pre : List (NdIn ds (chainP ss s)), pre.map NdIn.num <+: chainP ss s ∧ Jx pre W')) := by
  have HT := Lib.hid hT
  have HP := Lib.hid hP
  have HC := Lib.hid hC
  have HL := Lib.hid hl
  have HD := Lib.hid hd
  clear hT hP hC hl hd
  refine callsIn_of_wp Tryd.func96 rfl trivial ?_ rfl
  simp only [Tryd.ntmps96, List.size_toArray, List.length_cons, List.length_nil, Nat.reduceAdd, Nat.reduceSub, Array.replicate_succ, Array.replicate_zero, List.push_toArray, List.append_toArray, List.nil_append, List.cons_append]
  gi_wp2
  gi_loopw [3] (fun p wr => ∃ (pre : List (NdIn ds (chainP ss s))), J pre wr ∧ CellsKept w0.heap.size w0 wr ∧
      ((p = .pointer none ∧ Hid (pre.map NdIn.num = chainP ss s)) ∨ ∃ (i : Nat) (c : Nd), p = .pointer (some ⟨c.blk, 0, none⟩) ∧ Hid (ds[i]? = some c) ∧ Hid (pre.map NdIn.num ++ chainP ss i = chainP ss s))) (fun p _ => rank ds p)
  case atStart => exact ⟨[], h0, hk, .inr ⟨s, d, rfl, HD, Lib.hid rfl⟩⟩
  case round =>
    obtain ⟨pre, hJ, hkr, ⟨rfl, hpre⟩ | ⟨i, c, rfl, hc, hpre⟩⟩ := hrel
    · gi_wp2
      go_end0
      exact ⟨⟨_, rfl⟩, .inl ⟨pre, hpre.out, hJ⟩⟩
    · have hlen : pre.length < (chainP ss s).length := by
        have := congrArg List.length hpre.out
        obtain ⟨t, ht⟩ := chain_head ss i
        rw [ht] at this
        simp at this
        omega
      have HMEM : i ∈ chainP ss s := by
        obtain ⟨t, ht⟩ := chain_head ss i
        rw [← hpre.out, ht]
        simp
      have HCM := Lib.hid (And.intro hc.out HMEM)
      clear HMEM
      obtain ⟨fn, tmps, assign, body, hy, hR⟩ := hY pre ⟨(i, c), HCM.out⟩ wr hJ hkr hlen
      dsimp only [ndArgs] at hy
      have HR := Lib.hid (hR.mono (R' := fun e W' => ∃ q, e = .returned (.bool q) ∧ Hid ((q = true ∧ J (pre ++ [⟨(i, c), HCM.out⟩]) W' ∧ CellsKept w0.heap.size wr W') ∨ (q = false ∧ Jx (pre ++ [⟨(i, c), HCM.out⟩]) W'))) (by
        rintro e W' (⟨he, h1, h2⟩ | ⟨he, h1⟩)
        · exact ⟨true, he, Lib.hid (.inl ⟨rfl, h1, h2⟩)⟩
        · exact ⟨false, he, Lib.hid (.inr ⟨rfl, h1⟩)⟩))
      have HKR := Lib.hid hkr
      have HRK := Lib.hid (rank_of HT.out.inj hc.out)
      clear hR hlen hkr
      gi_wp2
      refine HR.out.mono ?_
      rintro e W3 ⟨q, rfl, hq⟩
      rcases hq.out with ⟨rfl, hJ3, hk3⟩ | ⟨rfl, hx3⟩
      · have HK3 := Lib.hid (HKR.out.trans hk3)
        have hpc := (((HT.out.kept HK3.out (Nat.le_refl _)).node i c hc.out).2.cell (i := 1) (v := .pointer c.par) (by rfl))
        rcases par_ptr HP.out HC.out HL.out hc.out with ⟨h1, h2⟩ | ⟨p, e', h1, hlt, h2, h3⟩
        · have HE : Hid ((pre ++ [(⟨(i, c), HCM.out⟩ : NdIn ds (chainP ss s))]).map NdIn.num = chainP ss s) := Lib.hid (by refine Eq.trans ?_ hpre.out; rw [chain_none h1, List.map_append]; rfl)
          rw [h2] at hpc
          clear hk3 h1 h2
          gi_wp2
          exact ⟨⟨_, hJ3, HK3.out, .inl ⟨rfl, HE⟩⟩, by rw [HRK.out]; simp [rank]⟩
        · have HE : Hid ((pre ++ [(⟨(i, c), HCM.out⟩ : NdIn ds (chainP ss s))]).map NdIn.num ++ chainP ss p = chainP ss s) := Lib.hid (by refine Eq.trans ?_ hpre.out; rw [chain_some HC.out h1, List.map_append, List.append_assoc]; rfl)
          have HP2 := Lib.hid h2
          have HR2 := Lib.hid (rank_of HT.out.inj h2)
          rw [h3] at hpc
          clear hk3 h1 h2 h3
          gi_wp2
          exact ⟨⟨_, hJ3, HK3.out, .inr ⟨p, e', rfl, HP2, HE⟩⟩, by rw [HRK.out, HR2.out]; omega⟩
      · have HE : Hid ((pre ++ [(⟨(i, c), HCM.out⟩ : NdIn ds (chainP ss s))]).map NdIn.num <+: chainP ss s) := Lib.hid (by
          obtain ⟨t, ht⟩ := chain_head ss i
          exact ⟨t, Eq.trans (by rw [ht, List.map_append]; simp [NdIn.num]) hpre.out⟩)
        gi_wp2
        refine bodyPost_ret (results_none rfl _ _ _) rfl ?_
        exact ⟨⟨_, rfl⟩, .inr ⟨_, HE.out, hx3⟩⟩
theorem outward_stopsC (n : Nat) (hn : 1 ≤ n) (Bn B T M1 M2 : Nat) (v : Value) (ds : List Nd) (ss : List Sc) (w0 w : World) (hT : Tree w0 B T M1 M2 v ds) (hP : Pars ds ss) (hC : Climbs ss) (hl : ds.length = ss.length) (s : Nat) (d : Nd) (hd : ds[s]? = some d)
    (hk : CellsKept w0.heap.size w0 w) (hBn : w.cell? ⟨Bn, 0, none⟩ = some (.pointer (some ⟨d.blk, 0, none⟩))) :
    SeqStopsK Fence.wide n Tryd.prog 96 #[.pointer (some ⟨Bn, 0, none⟩)] (fun x : NdIn ds (chainP ss s) => ndArgs x.1.2) (CellsKept w0.heap.size) (fun ys => ys.map NdIn.num = chainP ss s) (fun pre => pre.map NdIn.num <+: chainP ss s) (chainP ss s).length w :=
  fun l J Jx W hW _ _ hY h0 =>
    outward1_inC n hn l Bn B T M1 M2 v ds ss w0 hT hP hC hl s d hd J Jx W (fun pre x W1 h _ hlen => hY pre x W1 h hlen) (hk.trans ((CellsKept.of_below hW).mono hk.size)) ((hW.cell (p := ⟨Bn, 0, none⟩) (World.block_lt_of_cell? _ _ hBn)).trans hBn) h0
set_option maxRecDepth 100000 in
/-- From no node: no round. -/
theorem outward_none (n : Nat) (Bn : Nat) (ds : List Nd) (w0 w : World) (hBn : w.cell? ⟨Bn, 0, none⟩ = some (.pointer none)) :
    SeqStopsK Fence.wide n Tryd.prog 96 #[.pointer (some ⟨Bn, 0, none⟩)] (fun x : NdIn ds [] => ndArgs x.1.2) (CellsKept w0.heap.size) (fun ys => ys.map NdIn.num = []) (fun pre => pre.map NdIn.num <+: []) 0 w := by
  intro l J Jx W hW _ _ hY h0
  have hB := (hW.cell (p := ⟨Bn, 0, none⟩) (World.block_lt_of_cell? _ _ hBn)).trans hBn
  have H0 := Lib.hid h0
  clear h0 hY
  refine callsIn_of_wp Tryd.func96 rfl trivial ?_ rfl
  simp only [Tryd.ntmps96, List.size_toArray, List.length_cons, List.length_nil, Nat.reduceAdd, Nat.reduceSub, Array.replicate_succ, Array.replicate_zero, List.push_toArray, List.append_toArray, List.nil_append, List.cons_append]
  gi_wp2
  gi_loopw [3] (fun p wr => p = .pointer none ∧ wr = W) (fun p _ => 0)
  case atStart => exact ⟨rfl, rfl⟩
  case round =>
    obtain ⟨rfl, rfl⟩ := hrel
    gi_wp2
    go_end0
    exact ⟨⟨_, rfl⟩, .inl ⟨[], rfl, H0.out⟩⟩
theorem build_find (w : World) : (Instr.build 119 #[(0, .int .i64 (-1))]).run Tryd.prog w = .ok (.agg #[.int .i64 (-1), .int .i64 0, .slice none 0 0]) w := by kernel_rfl
theorem index_way0 (w : World) : (Instr.index 164 (.agg #[.int .i64 1, .int .i64 2]) (.int .i64 ((0 : Nat) : Int))).run Tryd.prog w = .ok (.int .i64 1) w := by kernel_rfl
theorem index_way1 (w : World) : (Instr.index 164 (.agg #[.int .i64 1, .int .i64 2]) (.int .i64 ((1 : Nat) : Int))).run Tryd.prog w = .ok (.int .i64 2) w := by kernel_rfl
theorem index_way0' (w : World) : (Instr.index 164 (.agg #[.int .i64 1, .int .i64 2]) (.int .i64 0)).run Tryd.prog w = .ok (.int .i64 1) w := by kernel_rfl
theorem index_way1' (w : World) : (Instr.index 164 (.agg #[.int .i64 1, .int .i64 2]) (.int .i64 1)).run Tryd.prog w = .ok (.int .i64 2) w := by kernel_rfl
attribute [local go_sem ↓] build_find index_way0 index_way1 index_way0' index_way1'
/-- What find answers. -/
def FindGot (f : Found) (w : World) (B L M T M1 M2 : Nat) (v : Value) (ds : List Nd) (ss : List Sc) (e : Ending) (w' : World) : Prop :=
  ∃ u, e = .returned (.agg #[.int .i64 f.scope, .int .i64 f.way, u]) ∧ w'.ownsRow w.heap.size 32 2 u f.places.length (placeCells f.places) ∧ Left w w' B L M T M1 M2 v ds ss
theorem left_own {w : World} {B L M T M1 M2 n : Nat} {v : Value} {ds : List Nd} {ss : List Sc} {α : Type} (hL : LookW w B L M T M1 M2 v ds ss) (hn : w.heap.size ≤ n) : OwnFrom n (fun (_ : α) W => Left w W B L M T M1 M2 v ds ss) :=
  fun _ _ _ _ hs hg hr => Left.far hL hs ((Below.refl w.heap.size _).grown hg hs.turns.size (fun r e => Nat.le_trans hn (hr r e).1))
/-- Nothing found at the scopes that were passed. -/
def Passed (ss : List Sc) (nm : ByteArray) (l : List Nat) : Prop := ∀ m ∈ l, (ownP ss m nm).length = 0 ∧ (fromP ss (impP ss m) nm).length = 0
theorem passed_all {ss : List Sc} {nm : ByteArray} : ∀ {l : List Nat}, Passed ss nm l → lookF ss (impP ss) nm l = ⟨-1, 0, []⟩
  | [], _ => rfl
  | m :: r, h => by
    have h1 := h m List.mem_cons_self
    rw [lookF_cons_next (by omega) (by omega)]
    exact passed_all fun x hx => h x (List.mem_cons_of_mem _ hx)
theorem passed_skip {ss : List Sc} {nm : ByteArray} : ∀ {l r : List Nat}, Passed ss nm l → lookF ss (impP ss) nm (l ++ r) = lookF ss (impP ss) nm r
  | [], _, _ => rfl
  | m :: l, r, h => by
    have h1 := h m List.mem_cons_self
    rw [List.cons_append, lookF_cons_next (by omega) (by omega)]
    exact passed_skip fun x hx => h x (List.mem_cons_of_mem _ hx)
/-- The world in which the loop begins. -/
structure FindAt (w W0 : World) (L : Nat) (pa : Option Addr) (nm : ByteArray) : Prop where
  size : W0.heap.size = w.heap.size + 1 + 1 + 1 + 1 + 1
  below : Below w.heap.size w W0
  r3 : Row W0 w.heap.size 102 [.pointer (some ⟨L, 0, none⟩)]
  r5 : Row W0 (w.heap.size + 1) 9 [.string nm]
  r6 : Row W0 (w.heap.size + 1 + 1) 119 [.int .i64 0, .int .i64 0, .slice none 0 0]
  r7 : Row W0 (w.heap.size + 1 + 1 + 1) 119 [.int .i64 (-1), .int .i64 0, .slice none 0 0]
  rn : W0.cell? ⟨w.heap.size + 1 + 1 + 1 + 1, 0, none⟩ = some (.pointer pa)
theorem findAt (w : World) (L : Nat) (pa : Option Addr) (nm : ByteArray) : FindAt w (((((w.alloc (.cells #[.pointer (some ⟨L, 0, none⟩)] 102)).alloc (.cells #[.string nm] 9)).alloc (.cells #[.int .i64 0, .int .i64 0, .slice none 0 0] 119)).alloc (.cells #[.int .i64 (-1), .int .i64 0, .slice none 0 0] 119)).alloc (.cells #[.pointer pa] 78)) L pa nm where
  size := by simp
  below := (((((Below.refl _ _).alloc (Nat.le_refl _) _).alloc (by simp) _).alloc (by simp; omega) _).alloc (by simp; omega) _).alloc (by simp; omega) _
  r3 := ((((Row.new w [.pointer (some ⟨L, 0, none⟩)] 102).alloc _).alloc _).alloc _).alloc _
  r5 := by
    have h := (((Row.new (w.alloc (.cells #[.pointer (some ⟨L, 0, none⟩)] 102)) [.string nm] 9).alloc (.cells #[.int .i64 0, .int .i64 0, .slice none 0 0] 119)).alloc (.cells #[.int .i64 (-1), .int .i64 0, .slice none 0 0] 119)).alloc (.cells #[.pointer pa] 78)
    simp only [World.size_alloc] at h
    exact h
  r6 := by
    have h := ((Row.new ((w.alloc (.cells #[.pointer (some ⟨L, 0, none⟩)] 102)).alloc (.cells #[.string nm] 9)) [.int .i64 0, .int .i64 0, .slice none 0 0] 119).alloc (.cells #[.int .i64 (-1), .int .i64 0, .slice none 0 0] 119)).alloc (.cells #[.pointer pa] 78)
    simp only [World.size_alloc] at h
    exact h
  r7 := by
    have h := (Row.new (((w.alloc (.cells #[.pointer (some ⟨L, 0, none⟩)] 102)).alloc (.cells #[.string nm] 9)).alloc (.cells #[.int .i64 0, .int .i64 0, .slice none 0 0] 119)) [.int .i64 (-1), .int .i64 0, .slice none 0 0] 119).alloc (.cells #[.pointer pa] 78)
    simp only [World.size_alloc] at h
    exact h
  rn := by
    have h := (Boxed.new ((((w.alloc (.cells #[.pointer (some ⟨L, 0, none⟩)] 102)).alloc (.cells #[.string nm] 9)).alloc (.cells #[.int .i64 0, .int .i64 0, .slice none 0 0] 119)).alloc (.cells #[.int .i64 (-1), .int .i64 0, .slice none 0 0] 119)) 78 (.pointer pa)).cell
    simp only [World.size_alloc] at h
    exact h
/-- Where the loop was left. -/
structure FoundAt (w W : World) (B L M T M1 M2 : Nat) (v : Value) (ds : List Nd) (ss : List Sc) (f : Found) : Prop where
  left : Left w W B L M T M1 M2 v ds ss
  r6 : Row W (w.heap.size + 1 + 1) 119 [.int .i64 0, .int .i64 0, .slice none 0 0]
  r7 : ∃ u, Row W (w.heap.size + 1 + 1 + 1) 119 [.int .i64 f.scope, .int .i64 f.way, u] ∧ W.ownsRow w.heap.size 32 2 u f.places.length (placeCells f.places)
theorem foundAt_own {w : World} {B L M T M1 M2 n : Nat} {v : Value} {ds : List Nd} {ss : List Sc} (hL : LookW w B L M T M1 M2 v ds ss) (hn : w.heap.size ≤ n) : OwnFrom n (fun (f : Found) W => FoundAt w W B L M T M1 M2 v ds ss f) :=
  fun _ _ _ _ hs hg hr => ⟨left_own (α := Unit) hL hn () _ _ _ hs.left hg hr, hs.r6.kept_cells hg (fun r e => (hr r e).2), by
    obtain ⟨u, h1, h2⟩ := hs.r7
    refine ⟨u, h1.kept_cells hg (fun r e => (hr r e).2), h2.kept hg ?_⟩
    rcases h2.2 with ⟨rfl, _⟩ | ⟨g, cap, cur, rfl, _, hgb, _⟩
    · exact .inl rfl
    · refine .inr fun e => ?_
      obtain ⟨_, o, ho, hc⟩ := hr g (by simpa [Value.ownBlock] using e.symm)
      rw [hgb] at ho; cases ho; cases hc⟩
theorem grownBy_set (W : World) (b i : Nat) (v : Value) : W.grownBy (W.setCell ⟨b, i, none⟩ v) (some b) :=
  ⟨rfl, rfl, rfl, (KeepsWalks.setCell W _ v).size, fun k _ hk => Below.heap_setCell _ _ _ k (fun e => hk (by rw [e]))⟩
/-- The result stored, the call returned. -/
theorem find_end {w W : World} {B L M T M1 M2 D : Nat} {v u : Value} {ds : List Nd} {ss : List Sc} {f : Found} {x0 x1 x2 : Value} {t : Array Value} (hL : LookW w B L M T M1 M2 v ds ss) (hl : Left w W B L M T M1 M2 v ds ss)
    (r6 : Row W (w.heap.size + 1 + 1) 119 [x0, x1, x2]) (hown : W.ownsRow w.heap.size 32 2 u f.places.length (placeCells f.places)) (hD : w.heap.size + 5 ≤ D) (hK : W.heap[D]? = some (.deferred (some []))) (ht : t[6]? = some (.pointer (some ⟨w.heap.size + 1 + 1, 0, none⟩))) :
    Exit.noGoto (bodyPostM Fence.wide 6 Tryd.prog Tryd.f72 (FindGot f w B L M T M1 M2 v ds ss)) .ret { tmps := t, defers := [{ target := .collected D, args := #[] }] }
      (((W.setCell ⟨w.heap.size + 1 + 1, 0, none⟩ (.int .i64 f.scope)).setCell ⟨w.heap.size + 1 + 1, 1, none⟩ (.int .i64 f.way)).setCell ⟨w.heap.size + 1 + 1, 2, none⟩ u) := by
  have q6 := ((r6.set 0 (.int .i64 f.scope)).set 1 (.int .i64 f.way)).set 2 u
  have o6 := ((hown.kept (grownBy_set W _ 0 (.int .i64 f.scope)) (.inr (ownsRow_ne r6 (by decide) hown).symm)).kept (grownBy_set _ _ 1 (.int .i64 f.way)) (.inr (ownsRow_ne r6 (by decide) hown).symm)).kept (grownBy_set _ _ 2 u) (.inr (ownsRow_ne r6 (by decide) hown).symm)
  have hl6 := Left.far hL hl ((((Below.refl w.heap.size W).setCell (p := ⟨w.heap.size + 1 + 1, 0, none⟩) (by show w.heap.size ≤ w.heap.size + 1 + 1; omega) (.int .i64 f.scope)).setCell (p := ⟨w.heap.size + 1 + 1, 1, none⟩) (by show w.heap.size ≤ w.heap.size + 1 + 1; omega) (.int .i64 f.way)).setCell (p := ⟨w.heap.size + 1 + 1, 2, none⟩) (by show w.heap.size ≤ w.heap.size + 1 + 1; omega) u)
  have hK6 : (((W.setCell ⟨w.heap.size + 1 + 1, 0, none⟩ (.int .i64 f.scope)).setCell ⟨w.heap.size + 1 + 1, 1, none⟩ (.int .i64 f.way)).setCell ⟨w.heap.size + 1 + 1, 2, none⟩ u).heap[D]? = some (.deferred (some [])) := by
    rw [Below.heap_setCell _ _ _ _ (by show D ≠ w.heap.size + 1 + 1; omega), Below.heap_setCell _ _ _ _ (by show D ≠ w.heap.size + 1 + 1; omega), Below.heap_setCell _ _ _ _ (by show D ≠ w.heap.size + 1 + 1; omega)]
    exact hK
  generalize (((W.setCell ⟨w.heap.size + 1 + 1, 0, none⟩ (.int .i64 f.scope)).setCell ⟨w.heap.size + 1 + 1, 1, none⟩ (.int .i64 f.way)).setCell ⟨w.heap.size + 1 + 1, 2, none⟩ u) = W6 at q6 o6 hl6 hK6 ⊢
  refine ⟨by simp, .inl ⟨_, _, rfl, run_takeDeferred hK6, ?_⟩⟩
  have q7 : Row (W6.putObj D (.deferred none)) (w.heap.size + 1 + 1) 119 [.int .i64 f.scope, .int .i64 f.way, u] := q6.kept_cells (grownBy_putObj' W6 D _) (fun r e => by cases e; exact ⟨_, hK6, rfl⟩)
  have o7 := ownsRow_putObj o6 (.deferred none) hK6 rfl
  have hl7 := left_own (α := Unit) hL (Nat.le_refl _) () _ _ _ hl6 (grownBy_putObj' W6 D (.deferred none)) (fun r e => by cases e; exact ⟨by omega, _, hK6, rfl⟩)
  have c0 := q7.cell (i := 0) (v := .int .i64 f.scope) (by rfl)
  have c1 := q7.cell (i := 1) (v := .int .i64 f.way) (by rfl)
  have c2 := q7.cell (i := 2) (v := u) (by rfl)
  refine ⟨.agg #[.int .i64 f.scope, .int .i64 f.way, u], ?_, u, rfl, o7, hl7⟩
  clear hl o7 hl7 q6 o6 hl6 hL
  simp [results, Tryd.results72, go_sem, ht, c0, c1, c2]
set_option maxRecDepth 100000 in
set_option maxHeartbeats 8000000 in
theorem find_walk {ss : List Sc} (hv : Valid ss) {w : World} {B L M T M1 M2 : Nat} {v : Value} {ds : List Nd} (hL : LookW w B L M T M1 M2 v ds ss) (nm : ByteArray) (pa : Option Addr) (cl : List Nat) (hcl : cl.length ≤ 6)
    (hT : ∀ m ∈ cl, TargetC B L M T M1 M2 v ds ss m)
    (hseq : ∀ (Bn : Nat) (w0 w : World), TreeIs w0 B T M1 M2 v ds ss → CellsKept w0.heap.size w0 w → w.cell? ⟨Bn, 0, none⟩ = some (.pointer pa) →
      SeqStopsK Fence.wide 5 Tryd.prog 96 #[.pointer (some ⟨Bn, 0, none⟩)] (fun x : NdIn ds cl => ndArgs x.1.2) (CellsKept w0.heap.size) (fun ys => ys.map NdIn.num = cl) (fun pre => pre.map NdIn.num <+: cl) cl.length w) :
    Calls Tryd.prog 72 #[.pointer (some ⟨L, 0, none⟩), .pointer pa, .string nm] w (FindGot (lookF ss (impP ss) nm cl) w B L M T M1 M2 v ds ss) := by
  have HV := Lib.hid hv
  have HL := Lib.hid hL
  have HT := Lib.hid hT
  have HS := Lib.hid hseq
  have HCL := Lib.hid hcl
  have hM := hL.memo.lt
  clear hv hL hT hseq hcl
  refine (callsIn_wide (n := 6)).1 ?_
  refine callsIn_of_wp_marks Tryd.func72 rfl trivial ?_ rfl
  simp only [Tryd.ntmps72, List.size_toArray, List.length_cons, List.length_nil, Nat.reduceAdd, Nat.reduceSub, Array.replicate_succ, Array.replicate_zero, List.push_toArray, List.append_toArray, List.nil_append, List.cons_append]
  gi_wp2_with fail
  refine wpIn_wide.2 (wp_scope_straight ((wpIn_wide (n := 6)).1 ?_))
  gi_wp2_with fail
  refine wpIn_label ?_
  gi_wp2_with fail
  refine ⟨trivial, ?_⟩
  gi_at_call 60
  refine ((callsIn_wide (n := 5)).2 (outward_any _ _)).mono ?_
  rintro e w2 ⟨rfl, rfl⟩
  gi_wp2
  have hFA := findAt w L pa nm
  generalize hW0 : (((((w.alloc (.cells #[.pointer (some ⟨L, 0, none⟩)] 102)).alloc (.cells #[.string nm] 9)).alloc (.cells #[.int .i64 0, .int .i64 0, .slice none 0 0] 119)).alloc (.cells #[.int .i64 (-1), .int .i64 0, .slice none 0 0] 119)).alloc (.cells #[.pointer pa] 78)) = W0 at hFA ⊢
  clear hW0
  have HL0 := Lib.hid (HL.out.left.step hFA.below)
  have hz := hFA.size
  have HFA := Lib.hid hFA
  refine wpIn_rangeFunc_ownH rfl (by omega) (gf := 96) (lb := #[.pointer (some ⟨w.heap.size + 1 + 1 + 1 + 1, 0, none⟩)]) rfl trivial (enters_of Tryd.func96 (by kernel_rfl) rfl)
    (HS.out _ W0 W0 HL0.out.look.tree (CellsKept.refl _ _) HFA.out.rn) CellsKept.trans (fun W l o o' _ h1 h2 h3 => CellsKept.putObj W l o o' h1 h2) (Below.refl _ _) (fun _ => rfl)
    (fun pre W => Left w W B L M T M1 M2 v ds ss ∧ (CellsKept W0.heap.size W0 W ∧ Hid (Passed ss nm (pre.map NdIn.num))))
    (fun c pre W => c = .exit 0 ∧ ∃ f, Hid (∀ r, lookF ss (impP ss) nm (pre.map NdIn.num ++ r) = f) ∧ FoundAt w W B L M T M1 M2 v ds ss f)
    (OwnFrom.and (left_own HL.out (by omega)) (OwnFrom.and (cellsKept_own W0) (fun _ _ _ _ hs _ _ => hs)))
    (fun _ _ _ _ _ hs hg hr => ⟨hs.1, by obtain ⟨f, h1, h2⟩ := hs.2; exact ⟨f, h1, foundAt_own HL.out (by omega) f _ _ _ h2 hg hr⟩⟩)
    ⟨HL0.out, CellsKept.refl _ _, Lib.hid (fun m hm => by simp at hm)⟩
    (fun x a' _ => a' = { tmps := #[.pointer (some ⟨L, 0, none⟩), .pointer pa, .string nm, .pointer (some ⟨w.heap.size, 0, none⟩), undef, .pointer (some ⟨w.heap.size + 1, 0, none⟩), .pointer (some ⟨w.heap.size + 1 + 1, 0, none⟩), .pointer (some ⟨w.heap.size + 1 + 1 + 1, 0, none⟩), .pointer (some ⟨x.1.2.blk, 0, none⟩), undef, undef, undef,
      .agg #[.int .i64 (-1), .int .i64 0, .slice none 0 0], .pointer pa, .func (.func 96) #[] #[.pointer (some ⟨w.heap.size + 1 + 1 + 1 + 1, 0, none⟩)], .pointer (some ⟨x.1.2.blk, 0, none⟩), undef, undef, undef, undef, undef, undef, undef, undef, undef, undef, undef, undef, undef, undef, undef, undef, undef, undef, undef, undef, undef], defers := [] })
    (fun _ _ _ _ _ _ hs _ _ => hs)
    ?assign ?body ?done ?stop
  case assign =>
    rintro l pre x W K hi hK
    dsimp only [ndArgs]
    gi_wp2
    exact hK _ _ (KeepsFrom.refl _ _) (CellsKept.refl _ _) hi rfl
  case body =>
    rintro l pre x a' W hl _ ⟨hLW, hck, hps⟩ rfl hlen
    obtain ⟨⟨i, c⟩, hci, him⟩ := x
    dsimp only
    have HLW := Lib.hid hLW
    have HCK := Lib.hid hck
    have HPS := Lib.hid hps.out
    have HTC := Lib.hid (HT.out i him)
    have HCI := Lib.hid hci
    have HX : Hid ((pre ++ [(⟨(i, c), hci, him⟩ : NdIn ds cl)]).map NdIn.num = pre.map NdIn.num ++ [i]) := Lib.hid (by rw [List.map_append]; rfl)
    have hWs := hck.size
    generalize hpx : (pre ++ [(⟨(i, c), hci, him⟩ : NdIn ds cl)]) = px at HX ⊢
    have hst0 : Hid (Left W W B L M T M1 M2 v ds ss) := Lib.hid hLW.look.left
    clear hLW hck hps hpx
    gi_wp2
    gi_loopw [17] (fun iv wr => ∃ k : Nat, iv = .int .i64 k ∧ k ≤ 2 ∧ Hid (Left W wr B L M T M1 M2 v ds ss ∧ (1 ≤ k → (ownP ss i nm).length = 0) ∧ (2 ≤ k → (fromP ss (impP ss i) nm).length = 0))) (fun iv _ => 2 - (intOf iv).toNat)
    case atStart => exact ⟨0, rfl, by omega, Lib.hid ⟨hst0.out, fun h => by omega, fun h => by omega⟩⟩
    case round =>
      obtain ⟨k, rfl, hk, hP⟩ := hrel
      by_cases hlt : k < 2
      · have HKW := Lib.hid (HCK.out.trans ((hP.out.1.turns.cellsM HLW.out.look.memo).mono hWs))
        have g3 := HKW.out.cell (by omega) (HFA.out.r3.cell (i := 0) (by rfl))
        have g5 := HKW.out.cell (by omega) (HFA.out.r5.cell (i := 0) (by rfl))
        have hi2 : k = 0 ∨ k = 1 := by omega
        rcases hi2 with rfl | rfl
        · have HC := Lib.hid (CallsIn.inRound l ((callsIn_wide (n := 3)).2 (wayFrom_any HV.out hP.out.1.look HCI.out HTC.out nm 1 (by omega))))
          rw [show wayP ss i nm 1 = ownP ss i nm from rfl] at HC
          have hlen2 : (ownP ss i nm).length ≤ 25 := by
            have := ownP_length HV.out i nm; omega
          gi_wp2_with fail
          refine ⟨trivial, ?_⟩
          gi_at_call 105
          refine HC.out.mono ?_
          rintro e w3 ⟨u, rfl, hrow3, hl3⟩
          obtain ⟨ou, cu, rfl⟩ := ownsRow_slice hrow3
          have HL3 := Lib.hid (hP.out.1.trans hl3)
          have HK3 := Lib.hid (HCK.out.trans ((HL3.out.turns.cellsM HLW.out.look.memo).mono hWs))
          have HR3 : Hid (w3.ownsRow w.heap.size 32 2 (.slice ou (ownP ss i nm).length cu) (ownP ss i nm).length (placeCells (ownP ss i nm))) := Lib.hid (ownsRow_lower hrow3 (Nat.le_trans HLW.out.turns.size hP.out.1.turns.size))
          clear hrow3 hl3 g3 g5
          by_cases hpos : 0 < (ownP ss i nm).length
          · have R7 : Row w3 (w.heap.size + 1 + 1 + 1) 119 [.int .i64 (-1), .int .i64 0, .slice none 0 0] := HK3.out.block _ _ _ _ (by omega) HFA.out.r7
            have R6 : Row w3 (w.heap.size + 1 + 1) 119 [.int .i64 0, .int .i64 0, .slice none 0 0] := HK3.out.block _ _ _ _ (by omega) HFA.out.r6
            have c0 := R7.cell (i := 0) (v := .int .i64 (-1)) (by rfl)
            have c1 := R7.cell (i := 1) (v := .int .i64 0) (by rfl)
            have c2 := R7.cell (i := 2) (v := .slice none 0 0) (by rfl)
            have f0 : ∀ k, w3.frozen? ⟨w.heap.size + 1 + 1 + 1, k, none⟩ = false := fun k => R7.frozen k
            have m0 := ((HL3.out.look.tree.tree.node i c HCI.out).2.cell (i := 0) (v := .int .i64 (i : Int)) (by rfl))
            have HR7 := Lib.hid R7
            have HR6 := Lib.hid R6
            have HFN : Hid (∀ r, lookF ss (impP ss) nm (px.map NdIn.num ++ r) = ⟨(i : Int), 1, ownP ss i nm⟩) := Lib.hid (fun r => by
              rw [HX.out, List.append_assoc, passed_skip HPS.out, List.singleton_append]
              exact lookF_cons_own hpos)
            clear R7 R6
            gi_wp2
            refine ⟨?_, rfl, _, HFN, ⟨?_, ?_, .slice ou (ownP ss i nm).length cu, ?_, ?_⟩⟩
            · exact (HL3.out.turns.keepsFrom (by omega) (by omega)).trans ((((KeepsOthers.setCell _ _ _).trans (KeepsOthers.setCell _ _ _)).trans (KeepsOthers.setCell _ _ _)).from _)
            · exact Left.far HL.out (HLW.out.trans HL3.out) ((((Below.refl w.heap.size w3).setCell (p := ⟨w.heap.size + 1 + 1 + 1, 0, none⟩) (by show w.heap.size ≤ w.heap.size + 1 + 1 + 1; omega) _).setCell (p := ⟨w.heap.size + 1 + 1 + 1, 1, none⟩) (by show w.heap.size ≤ w.heap.size + 1 + 1 + 1; omega) _).setCell (p := ⟨w.heap.size + 1 + 1 + 1, 2, none⟩) (by show w.heap.size ≤ w.heap.size + 1 + 1 + 1; omega) _)
            · exact ((HR6.out.other (by show w.heap.size + 1 + 1 + 1 ≠ w.heap.size + 1 + 1; omega) _).other (by show w.heap.size + 1 + 1 + 1 ≠ w.heap.size + 1 + 1; omega) _).other (by show w.heap.size + 1 + 1 + 1 ≠ w.heap.size + 1 + 1; omega) _
            · exact ((HR7.out.set 0 _).set 1 _).set 2 _
            · exact ((HR3.out.kept (grownBy_set _ _ 0 _) (.inr (ownsRow_ne HR7.out (by decide) HR3.out).symm)).kept (grownBy_set _ _ 1 _) (.inr (ownsRow_ne HR7.out (by decide) HR3.out).symm)).kept (grownBy_set _ _ 2 _) (.inr (ownsRow_ne HR7.out (by decide) HR3.out).symm)
          · have hz0 : (ownP ss i nm).length = 0 := by omega
            have HZ := Lib.hid hz0
            have HST : Hid (Left W w3 B L M T M1 M2 v ds ss ∧ (1 ≤ 1 → (ownP ss i nm).length = 0) ∧ (2 ≤ 1 → (fromP ss (impP ss i) nm).length = 0)) := Lib.hid ⟨HL3.out, fun _ => HZ.out, fun h => by omega⟩
            gi_wp2
            exact ⟨⟨1, rfl, by omega, HST⟩, by simp only [intOf]; omega⟩
        · have HC := Lib.hid (CallsIn.inRound l ((callsIn_wide (n := 3)).2 (wayFrom_any HV.out hP.out.1.look HCI.out HTC.out nm 2 (by omega))))
          rw [show wayP ss i nm 2 = fromP ss (impP ss i) nm from rfl] at HC
          have hlen2 : (fromP ss (impP ss i) nm).length ≤ 25 := by
            have h1 := fromP_length HV.out nm (impP ss i); have h2 := impP_length HV.out i; omega
          gi_wp2_with fail
          refine ⟨trivial, ?_⟩
          gi_at_call 105
          refine HC.out.mono ?_
          rintro e w3 ⟨u, rfl, hrow3, hl3⟩
          obtain ⟨ou, cu, rfl⟩ := ownsRow_slice hrow3
          have HL3 := Lib.hid (hP.out.1.trans hl3)
          have HK3 := Lib.hid (HCK.out.trans ((HL3.out.turns.cellsM HLW.out.look.memo).mono hWs))
          have HR3 : Hid (w3.ownsRow w.heap.size 32 2 (.slice ou (fromP ss (impP ss i) nm).length cu) (fromP ss (impP ss i) nm).length (placeCells (fromP ss (impP ss i) nm))) := Lib.hid (ownsRow_lower hrow3 (Nat.le_trans HLW.out.turns.size hP.out.1.turns.size))
          clear hrow3 hl3 g3 g5
          by_cases hpos : 0 < (fromP ss (impP ss i) nm).length
          · have R7 : Row w3 (w.heap.size + 1 + 1 + 1) 119 [.int .i64 (-1), .int .i64 0, .slice none 0 0] := HK3.out.block _ _ _ _ (by omega) HFA.out.r7
            have R6 : Row w3 (w.heap.size + 1 + 1) 119 [.int .i64 0, .int .i64 0, .slice none 0 0] := HK3.out.block _ _ _ _ (by omega) HFA.out.r6
            have c0 := R7.cell (i := 0) (v := .int .i64 (-1)) (by rfl)
            have c1 := R7.cell (i := 1) (v := .int .i64 0) (by rfl)
            have c2 := R7.cell (i := 2) (v := .slice none 0 0) (by rfl)
            have f0 : ∀ k, w3.frozen? ⟨w.heap.size + 1 + 1 + 1, k, none⟩ = false := fun k => R7.frozen k
            have m0 := ((HL3.out.look.tree.tree.node i c HCI.out).2.cell (i := 0) (v := .int .i64 (i : Int)) (by rfl))
            have HR7 := Lib.hid R7
            have HR6 := Lib.hid R6
            have HFN : Hid (∀ r, lookF ss (impP ss) nm (px.map NdIn.num ++ r) = ⟨(i : Int), 2, fromP ss (impP ss i) nm⟩) := Lib.hid (fun r => by
              rw [HX.out, List.append_assoc, passed_skip HPS.out, List.singleton_append]
              exact lookF_cons_from (by have := hP.out.2.1 (by omega); omega) hpos)
            clear R7 R6
            gi_wp2
            refine ⟨?_, rfl, _, HFN, ⟨?_, ?_, .slice ou (fromP ss (impP ss i) nm).length cu, ?_, ?_⟩⟩
            · exact (HL3.out.turns.keepsFrom (by omega) (by omega)).trans ((((KeepsOthers.setCell _ _ _).trans (KeepsOthers.setCell _ _ _)).trans (KeepsOthers.setCell _ _ _)).from _)
            · exact Left.far HL.out (HLW.out.trans HL3.out) ((((Below.refl w.heap.size w3).setCell (p := ⟨w.heap.size + 1 + 1 + 1, 0, none⟩) (by show w.heap.size ≤ w.heap.size + 1 + 1 + 1; omega) _).setCell (p := ⟨w.heap.size + 1 + 1 + 1, 1, none⟩) (by show w.heap.size ≤ w.heap.size + 1 + 1 + 1; omega) _).setCell (p := ⟨w.heap.size + 1 + 1 + 1, 2, none⟩) (by show w.heap.size ≤ w.heap.size + 1 + 1 + 1; omega) _)
            · exact ((HR6.out.other (by show w.heap.size + 1 + 1 + 1 ≠ w.heap.size + 1 + 1; omega) _).other (by show w.heap.size + 1 + 1 + 1 ≠ w.heap.size + 1 + 1; omega) _).other (by show w.heap.size + 1 + 1 + 1 ≠ w.heap.size + 1 + 1; omega) _
            · exact ((HR7.out.set 0 _).set 1 _).set 2 _
            · exact ((HR3.out.kept (grownBy_set _ _ 0 _) (.inr (ownsRow_ne HR7.out (by decide) HR3.out).symm)).kept (grownBy_set _ _ 1 _) (.inr (ownsRow_ne HR7.out (by decide) HR3.out).symm)).kept (grownBy_set _ _ 2 _) (.inr (ownsRow_ne HR7.out (by decide) HR3.out).symm)
          · have hz0 : (fromP ss (impP ss i) nm).length = 0 := by omega
            have HZ := Lib.hid hz0
            have HST : Hid (Left W w3 B L M T M1 M2 v ds ss ∧ (1 ≤ 2 → (ownP ss i nm).length = 0) ∧ (2 ≤ 2 → (fromP ss (impP ss i) nm).length = 0)) := Lib.hid ⟨HL3.out, fun _ => hP.out.2.1 (by omega), fun _ => HZ.out⟩
            gi_wp2
            exact ⟨⟨2, rfl, by omega, HST⟩, by simp only [intOf]; omega⟩
      · obtain rfl : k = 2 := by omega
        have HPX : Hid (Passed ss nm (px.map NdIn.num)) := Lib.hid (by
          rw [HX.out]
          intro m hm
          rcases List.mem_append.1 hm with h | h
          · exact HPS.out m h
          · rw [List.mem_singleton] at h
            subst h
            exact ⟨hP.out.2.1 (by omega), hP.out.2.2 (by omega)⟩)
        gi_wp2
        exact ⟨hP.out.1.turns.keepsFrom (by omega) (by omega), (hP.out.1.turns.cellsM HLW.out.look.memo).mono hWs, HLW.out.trans hP.out.1, HCK.out.trans ((hP.out.1.turns.cellsM HLW.out.look.memo).mono hWs), HPX⟩
  case done =>
    rintro D xs W hD hS ⟨hLW, hck, hps⟩ hK
    have HLW := Lib.hid hLW
    have HCK := Lib.hid hck
    have R7 : Row W (w.heap.size + 1 + 1 + 1) 119 [.int .i64 (-1), .int .i64 0, .slice none 0 0] := hck.block _ _ _ _ (by omega) HFA.out.r7
    have R6 : Row W (w.heap.size + 1 + 1) 119 [.int .i64 0, .int .i64 0, .slice none 0 0] := hck.block _ _ _ _ (by omega) HFA.out.r6
    have HF : Hid (lookF ss (impP ss) nm cl = ⟨-1, 0, []⟩) := Lib.hid (by rw [← hS]; exact passed_all hps.out)
    have c0 := R7.cell (i := 0) (v := .int .i64 (-1)) (by rfl)
    have c1 := R7.cell (i := 1) (v := .int .i64 0) (by rfl)
    have c2 := R7.cell (i := 2) (v := .slice none 0 0) (by rfl)
    have d0 := R6.cell (i := 0) (v := .int .i64 0) (by rfl)
    have d1 := R6.cell (i := 1) (v := .int .i64 0) (by rfl)
    have d2 := R6.cell (i := 2) (v := .slice none 0 0) (by rfl)
    have f0 : ∀ k, W.frozen? ⟨w.heap.size + 1 + 1, k, none⟩ = false := fun k => R6.frozen k
    have HR6 := Lib.hid R6
    clear R7 R6 hLW hck hS hps
    gi_wp2
    rw [HF.out]
    exact find_end HL.out HLW.out HR6.out (World.ownsRow_nil _ _ _ _) (by omega) hK rfl
  case stop =>
    rintro D c pre W hD hSp ⟨rfl, f, hf, hFO⟩ hK
    obtain ⟨u, hr7, hown⟩ := hFO.r7
    have HF : Hid (lookF ss (impP ss) nm cl = f) := Lib.hid (by
      obtain ⟨r, hr⟩ := hSp
      rw [← hr]
      exact hf.out r)
    obtain ⟨ou, cu, rfl⟩ := ownsRow_slice hown
    have c0 := hr7.cell (i := 0) (v := .int .i64 f.scope) (by rfl)
    have c1 := hr7.cell (i := 1) (v := .int .i64 f.way) (by rfl)
    have c2 := hr7.cell (i := 2) (v := .slice ou f.places.length cu) (by rfl)
    have d0 := hFO.r6.cell (i := 0) (v := .int .i64 0) (by rfl)
    have d1 := hFO.r6.cell (i := 1) (v := .int .i64 0) (by rfl)
    have d2 := hFO.r6.cell (i := 2) (v := .slice none 0 0) (by rfl)
    have f0 : ∀ k, W.frozen? ⟨w.heap.size + 1 + 1, k, none⟩ = false := fun k => hFO.r6.frozen k
    have HFO := Lib.hid hFO
    have HOWN := Lib.hid hown
    clear hFO hr7 hown hSp hf
    gi_wp2
    rw [HF.out]
    exact find_end HL.out HFO.out.left HFO.out.r6 HOWN.out (by omega) hK rfl
end Go.Proofs.YtjogfagjcpcihaaDoor
namespace Go.Proofs.YtjogfagjcpcihaaDoor
open Go Go.RowKit Go.Maps
attribute [local go_sem ↓] field_kind field_name field_scope
theorem field_places (a b : Int) (oa : Option Addr) (n c : Nat) (w : World) : (Instr.field 119 (.agg #[.int .i64 a, .int .i64 b, .slice oa n c]) 2).run Tryd.prog w = .ok (.slice oa n c) w := by kernel_rfl
attribute [local go_sem ↓] field_places
theorem find_node {ss : List Sc} (hv : Valid ss) {w : World} {B L M T M1 M2 : Nat} {v : Value} {ds : List Nd} (hL : LookW w B L M T M1 M2 v ds ss) {s : Nat} {d : Nd} (hd : ds[s]? = some d) (hT : ∀ m ∈ chainP ss s, TargetC B L M T M1 M2 v ds ss m) (nm : ByteArray) :
    Calls Tryd.prog 72 #[.pointer (some ⟨L, 0, none⟩), .pointer (some ⟨d.blk, 0, none⟩), .string nm] w (FindGot (lookP ss s nm) w B L M T M1 M2 v ds ss) :=
  find_walk hv hL nm (some ⟨d.blk, 0, none⟩) (chainP ss s) (by
    have h1 := chain_bound hv.climbs (s := s) (by have := (List.getElem?_eq_some_iff.1 hd).1; have := hL.tree.hold.len; omega)
    have := hv.count.2
    omega) hT fun Bn w0 w' ht hk hc => outward_stopsC 5 (by omega) Bn B T M1 M2 v ds ss w0 w' ht.tree ht.pars hv.climbs ht.hold.len s d hd hk hc
theorem find_none {ss : List Sc} (hv : Valid ss) {w : World} {B L M T M1 M2 : Nat} {v : Value} {ds : List Nd} (hL : LookW w B L M T M1 M2 v ds ss) (nm : ByteArray) :
    Calls Tryd.prog 72 #[.pointer (some ⟨L, 0, none⟩), .pointer none, .string nm] w (FindGot ⟨-1, 0, []⟩ w B L M T M1 M2 v ds ss) :=
  find_walk hv hL nm none [] (by simp) (fun m hm => by simp at hm) fun Bn w0 w' _ _ hc => outward_none 5 Bn ds w0 w' hc
/-- An item looked up by its place. -/
theorem look_at {w : World} {B T M1 M2 : Nat} {v : Value} {ds : List Nd} {ss : List Sc} (hv : Valid ss) (hT : TreeIs w B T M1 M2 v ds ss) {i j : Nat} {c : Sc} {x : It} (hc : ss[i]? = some c) (hx : c.items[j]? = some x) :
    (Instr.lookup 86 (.map (some M1)) (.agg #[.int .i64 (i : Int), .int .i64 (j : Int)]) false).run Tryd.prog w = .ok (.agg #[.int .i64 x.kind, .string x.name, .int .i64 x.scope]) w := by
  have hb := item_bounds hv (q := (i, j)) ⟨c, x, hc, hx⟩
  dsimp only at hb
  have w1 := wf_small (a := i) (by omega)
  have w2 := wf_small (a := j) (by omega)
  obtain ⟨_, hat⟩ := look_item hv.small w1 w2
  obtain ⟨n1, hm⟩ := hT.items
  obtain ⟨v1, ps, hrun, hv1⟩ := hm.lookup (t := 86) (e := 42) placeLaw Tryd.underlying86 (zeroItem _) (itemR_mk zeroIt) (pl_key w1 w2)
  rw [hat] at hv1
  obtain rfl := itemR_eq hv1
  rw [hrun, itemAtP_nat hc, hx]
  rfl
set_option maxRecDepth 100000 in
set_option maxHeartbeats 4000000 in
theorem meantBy_any {ss : List Sc} (hv : Valid ss) {w : World} {B L M T M1 M2 : Nat} {v : Value} {ds : List Nd} (hL : LookW w B L M T M1 M2 v ds ss) {s j : Nat} {c : Sc} {x : It} (hsc : ss[s]? = some c) (hx : c.items[j]? = some x) (hT : ∀ m, m < s → TargetC B L M T M1 M2 v ds ss m) :
    Calls Tryd.prog 129 #[.pointer (some ⟨L, 0, none⟩), .agg #[.int .i64 (s : Int), .int .i64 (j : Int)]] w (PlsLeft (meantP ss s x.name) w B L M T M1 M2 v ds ss) := by
  have hb0 := (Below.refl w.heap.size w).alloc (Nat.le_refl _) (.cells #[.int .i64 (s : Int), .int .i64 (j : Int)] 32)
  have hL1 := hL.left.step hb0
  have hL2 := hL1.step ((Below.refl _ _).drew)
  have RP := Row.new w [.int .i64 (s : Int), .int .i64 (j : Int)] 32
  have hs : s < ss.length := (List.getElem?_eq_some_iff.1 hsc).1
  have hdl := hL.tree.hold.len
  obtain ⟨d, hd⟩ : ∃ d, ds[s]? = some d := ⟨_, List.getElem?_eq_getElem (by omega)⟩
  obtain ⟨g, cap', rfl, hgB, hg, hslot⟩ := hL2.look.tree.tree.slot (by intro e; rw [e] at hd; simp at hd)
  have s0 := hslot s d hd
  unfold Nd.ptr at s0
  have t0 := hL2.look.tree.tree.box.cell (i := 0) (by rfl)
  have t1 := hL2.look.tree.tree.box.cell (i := 1) (by rfl)
  have l0 := hL2.look.box.cell (i := 0) (by rfl)
  have p0 := cell_drew (RP.cell (i := 0) (by rfl))
  have p1 := cell_drew (RP.cell (i := 1) (by rfl))
  have hrun := look_at hv hL2.look.tree hsc hx
  have h6 := hv.count.2
  have HV := Lib.hid hv
  have HD := Lib.hid hd
  have HT := Lib.hid hT
  have HL0 := Lib.hid hL
  have HL1 := Lib.hid hL1
  have HL2 := Lib.hid hL2
  have hol := ownP_length hv s x.name
  clear hv hL hL1 hL2 hd hT hslot hsc hx RP hb0
  go_enter Tryd.func129, Tryd.ntmps129
  go_wp2
  go_region
  clear s0 t0 t1 l0 p0 p1 hrun
  go_wp2_with fail
  refine (own_any HV.out HL2.out.look.tree HD.out x.name).mono ?_
  rintro e w2 ⟨u, rfl, hu, hb2⟩
  obtain ⟨ou, cu, rfl⟩ := ownsRow_slice hu
  have HL3 := Lib.hid (HL2.out.step hb2)
  have HU := Lib.hid (ownsRow_lower hu HL2.out.turns.size)
  clear hu hb2
  by_cases hpos : 0 < (ownP ss s x.name).length
  · have HE : Hid (meantP ss s x.name = ownP ss s x.name) := Lib.hid (meantP_own (isEmpty_pos hpos))
    go_wp2
    go_ret
    exact ⟨_, rfl, by rw [HE.out]; exact HU.out, HL3.out⟩
  · have HEM := Lib.hid (isEmpty_zero hpos)
    have hz0 : (ownP ss s x.name).length = 0 := by omega
    have n1 := ((HL3.out.look.tree.tree.node s d HD.out).2.cell (i := 1) (v := .pointer d.par) (by rfl))
    rcases par_ptr HL3.out.look.tree.pars HV.out.climbs hdl HD.out with ⟨h1, h2⟩ | ⟨p, d2, h1, hlt, h2, h3⟩
    · have HE : Hid (meantP ss s x.name = []) := Lib.hid (meantP_none HEM.out h1)
      have C := Lib.hid (find_none HV.out HL3.out.look x.name)
      rw [h2] at n1
      clear h1 h2 hpos
      go_wp2_with fail
      refine C.out.mono ?_
      rintro e w3 ⟨u3, rfl, hr3, hl3⟩
      obtain ⟨o3, c3, rfl⟩ := ownsRow_slice hr3
      have HR3 := Lib.hid (ownsRow_lower hr3 HL3.out.turns.size)
      have HL4 := Lib.hid (HL3.out.trans hl3)
      clear hr3 hl3
      go_wp2
      go_ret
      exact ⟨_, rfl, by rw [HE.out]; exact HR3.out, HL4.out⟩
    · have HE : Hid (meantP ss s x.name = (lookP ss p x.name).places) := Lib.hid (meantP_par HEM.out h1)
      have C := Lib.hid (find_node HV.out HL3.out.look h2 (fun m hm => HT.out m (by have := chain_le HV.out.climbs p m hm; omega)) x.name)
      rw [h3] at n1
      clear h1 h2 h3 hpos
      go_wp2_with fail
      refine C.out.mono ?_
      rintro e w3 ⟨u3, rfl, hr3, hl3⟩
      obtain ⟨o3, c3, rfl⟩ := ownsRow_slice hr3
      have HR3 := Lib.hid (ownsRow_lower hr3 HL3.out.turns.size)
      have HL4 := Lib.hid (HL3.out.trans hl3)
      clear hr3 hl3
      go_wp2
      go_ret
      exact ⟨_, rfl, by rw [HE.out]; exact HR3.out, HL4.out⟩
set_option maxRecDepth 100000 in
set_option maxHeartbeats 4000000 in
theorem moduleAlone_any {ss : List Sc} (hv : Valid ss) {w : World} {B T M1 M2 : Nat} {v : Value} {ds : List Nd} (hT : TreeIs w B T M1 M2 v ds ss) {oa : Option Addr} {cap : Nat} {l : List (Int × Int)} (hl : l.length < 1000) (hp : ∀ p ∈ l, IsPlace ss p) (ha : ArgPlaces w oa l) :
    Calls Tryd.prog 158 #[.pointer (some ⟨T, 0, none⟩), .slice oa l.length cap] w fun e w' => e = .returned (.int .i64 (aloneP ss l)) ∧ Below w.heap.size w w' := by
  by_cases h1 : l.length = 1
  · obtain ⟨p, rfl⟩ := List.length_eq_one_iff.1 h1
    obtain ⟨i2, j2, c2, y, rfl, hc2, hy2⟩ := hp p (List.mem_singleton.2 rfl)
    have HA : Hid (aloneP ss [((i2 : Int), (j2 : Int))] = y.scope) := Lib.hid (scopeAt_of hc2 hy2)
    obtain ⟨b5, f5, rfl, hb5, q5⟩ := ha.at (by simp)
    obtain ⟨r0, r1⟩ := q5 0 ((i2 : Int), (j2 : Int)) (by rfl)
    rw [Nat.zero_mul, Nat.add_zero] at r0 r1
    have hTd := hT.below ((Below.refl w.heap.size w).drew)
    have e0 := cell_drew r0
    have e1 := cell_drew r1
    have t1 := hTd.tree.box.cell (i := 1) (by rfl)
    have hrun2 := look_at hv hTd hc2 hy2
    clear hv hT hTd hl hp ha q5 r0 r1 hc2 hy2
    simp only [List.length_singleton] at *
    go_enter Tryd.func158, Tryd.ntmps158
    go_wp2
    go_region
    all_goals go_wp2
    all_goals go_ret
    all_goals exact ⟨by rw [HA.out]; rfl, (Below.refl _ _).drew⟩
  · have HA : Hid (aloneP ss l = -1) := Lib.hid (aloneP_not h1)
    have hne : ((l.length : Int) != 1) = true := by simp; omega
    clear hv hT hp ha h1
    go_enter Tryd.func158, Tryd.ntmps158
    go_wp2
    go_ret
    exact ⟨by rw [HA.out]; rfl, Below.refl _ _⟩
set_option maxRecDepth 100000 in
set_option maxHeartbeats 4000000 in
theorem target_step {ss : List Sc} (hv : Valid ss) {B L M T M1 M2 : Nat} {v : Value} {ds : List Nd} {s : Nat} (hT : ∀ m, m < s → TargetC B L M T M1 M2 v ds ss m) : TargetC B L M T M1 M2 v ds ss s := by
  intro j hq w hL
  obtain ⟨c, x, hsc, hx⟩ := hq
  dsimp only at hsc hx
  have HQ : Hid (IsItem ss (s, j)) := Lib.hid ⟨c, x, hsc, hx⟩
  have HTGT := Lib.hid (tgt_of hsc hx)
  have hb0 := (Below.refl w.heap.size w).alloc (Nat.le_refl _) (.cells #[.int .i64 (s : Int), .int .i64 (j : Int)] 32)
  have hL1 := hL.left.step hb0
  have hL2 := hL1.step ((Below.refl _ _).drew)
  have RP := Row.new w [.int .i64 (s : Int), .int .i64 (j : Int)] 32
  have l1 := hL2.look.box.cell (i := 1) (by rfl)
  have p0 := cell_drew (RP.cell (i := 0) (by rfl))
  have p1 := cell_drew (RP.cell (i := 1) (by rfl))
  have hlook := hL2.look.memo.look hv HQ.out
  dsimp only at hlook
  have HV := Lib.hid hv
  have HT := Lib.hid hT
  have HL2 := Lib.hid hL2
  have HRP := Lib.hid RP
  have HSX := Lib.hid (And.intro hsc hx)
  clear hv hL hL1 hL2 hT hsc hx RP hb0
  rcases hlook with hrun | ⟨-, -, -, -, -, z, hrun⟩
  · generalize hz : tgt ss (s, j) = z at hrun
    clear hz
    go_enter Tryd.func149, Tryd.ntmps149
    go_wp2
    go_region
    all_goals go_wp2
    all_goals go_ret
    all_goals exact ⟨rfl, HL2.out⟩
  · go_enter Tryd.func149, Tryd.ntmps149
    go_wp2
    go_region
    clear hrun l1 p0 p1
    have hW0 : Row (w.alloc (.cells #[.int .i64 (s : Int), .int .i64 (j : Int)] 32)).drew w.heap.size 32 [.int .i64 (s : Int), .int .i64 (j : Int)] := HRP.out
    have HTA : Hid (tgt ss (s, j) = aloneP ss (meantP ss s x.name)) := Lib.hid (by rw [HTGT.out, targetP_alone])
    have HML : Hid ((meantP ss s x.name).length < 1000) := Lib.hid (by have := meantP_short HV.out s x.name; omega)
    generalize (w.alloc (.cells #[.int .i64 (s : Int), .int .i64 (j : Int)] 32)).drew = W at hW0 HL2 ⊢
    have HRP2 : Hid (Row W w.heap.size 32 [.int .i64 (s : Int), .int .i64 (j : Int)]) := Lib.hid hW0
    have HLd := Lib.hid (HL2.out.step ((Below.refl _ _).drew))
    have p0 := HRP2.out.cell (i := 0) (by rfl)
    have p1 := HRP2.out.cell (i := 1) (by rfl)
    have l0 := HL2.out.look.box.cell (i := 0) (by rfl)
    have C := Lib.hid (meantBy_any HV.out HLd.out.look HSX.out.1 HSX.out.2 HT.out)
    clear hW0
    go_wp2
    go_cut [7] (fun s7 wx => s7 = .int .i64 (tgt ss (s, j)) ∧ Left w wx B L M T M1 M2 v ds ss ∧ Row wx w.heap.size 32 [.int .i64 (s : Int), .int .i64 (j : Int)])
    case first =>
      go_region_held3 (fun w' => w'.cell? ⟨L, 0, none⟩ = some (.pointer (some ⟨T, 0, none⟩)) ∧ w'.cell? ⟨w.heap.size, 0, none⟩ = some (.int .i64 (s : Int)) ∧ w'.cell? ⟨w.heap.size, 1, none⟩ = some (.int .i64 (j : Int)))
        (first | exact ⟨l0, p0, p1⟩ | exact ⟨cell_drew l0, cell_drew p0, cell_drew p1⟩ | exact ⟨hl4.look.box.cell (i := 0) (by rfl), hp4.cell (i := 0) (by rfl), hp4.cell (i := 1) (by rfl)⟩ | exact ⟨cell_grow hb5 (hl4.look.box.cell (i := 0) (by rfl)), cell_grow hb5 (hp4.cell (i := 0) (by rfl)), cell_grow hb5 (hp4.cell (i := 1) (by rfl))⟩)
        (first | (go_at_call 129; refine C.out.mono ?_; rintro e w4 ⟨u4, rfl, hr4, hl4⟩; obtain ⟨o4, c4, rfl, harg4⟩ := argPlaces_of_owns hr4; have hp4 : Row w4 w.heap.size 32 [.int .i64 (s : Int), .int .i64 (j : Int)] := (hl4.turns.cellsM HLd.out.look.memo).block _ _ _ _ (by exact HRP2.out.lt) (by exact HRP2.out)) | (go_at_call 158; refine (moduleAlone_any HV.out hl4.look.tree HML.out (fun p hp => meant_isPlace p hp) harg4).mono ?_; rintro e w5 ⟨rfl, hb5⟩))
      all_goals go_wp2
      all_goals go_meet
      all_goals exact ⟨by rw [HTA.out], HLd.out.trans (hl4.step hb5), hp4.below hb5 hp4.lt⟩
    case rest =>
      obtain ⟨rfl, hl, hrow⟩ := hcut
      obtain ⟨w5, hrun5, hmemo5, hgrow5⟩ := memo_put HV.out (hl.look.below ((Below.refl _ _).drew)).memo HQ.out (z := tgt ss (s, j)) rfl
      dsimp only at hrun5
      have l5 := cell_drew (hl.look.box.cell (i := 1) (by rfl))
      have p5 := cell_drew (hrow.cell (i := 0) (by rfl))
      have p6 := cell_drew (hrow.cell (i := 1) (by rfl))
      have HL5 : Hid (Left w w5 B L M T M1 M2 v ds ss) := Lib.hid (by
        have h1 := hl.step ((Below.refl _ _).drew)
        have ht := Turns.of_grown (M1 := M) (M2 := M) hgrow5 (.inl rfl)
        exact ⟨h1.look.turned ht hmemo5, h1.turns.trans ht⟩)
      clear hmemo5 hgrow5 hl hrow p0 p1 l0
      go_wp2
      go_region
      all_goals go_wp2
      all_goals go_ret
      all_goals exact ⟨rfl, HL5.out⟩
theorem target_any {ss : List Sc} (hv : Valid ss) {B L M T M1 M2 : Nat} {v : Value} {ds : List Nd} (s : Nat) : TargetC B L M T M1 M2 v ds ss s := by
  induction s using Nat.strongRecOn with
  | _ s ih => exact target_step hv ih
end Go.Proofs.YtjogfagjcpcihaaDoor
namespace Go.Proofs.YtjogfagjcpcihaaDoor
open Go Go.RowKit Go.Maps
attribute [local go_sem] Oper.semAt_some
/-- One place appended, as the operation runs it where no order is drawn. -/
theorem append_place0 {W : World} {base k : Nat} {v : Value} {xs : List Value} (hrow : W.ownsRow base 32 2 v k xs) (x y : Int) (hk : k < 1000000) (hbase : base ≤ W.heap.size) (ty : TypeId) :
    ∃ v' w', (Builtin.append_ #[46, 46] ty #[v, .slice (some ⟨W.heap.size, 0, none⟩) 1 1]).run Tryd.prog (W.alloc (.cells #[.int .i64 x, .int .i64 y] 32)) = .ok v' w' ∧ w'.ownsRow base 32 2 v' (k + 1) (xs ++ [.int .i64 x, .int .i64 y]) ∧ (W.alloc (.cells #[.int .i64 x, .int .i64 y] 32)).grownBy w' v.ownBlock := by
  obtain ⟨i0, hi, hz0, hz1, hz2⟩ := info_parts infoPl
  obtain ⟨v', w', hrun, h2, h3, _, _⟩ := run_append_own_at (P := Tryd.prog) (W.alloc (.cells #[.int .i64 x, .int .i64 y] 32)) base 46 ty 32 i0 (.agg #[.int .i64 0, .int .i64 0]) 2 16 Tryd.underlying46 hi hz0 hz1 hz2 rfl (by decide) v k xs (hrow.alloc _) ⟨W.heap.size, 0, none⟩ 1 1 [.int .i64 x, .int .i64 y] rfl (cells_new2 W _ _ _)
    (by intro u hu; simp only [List.mem_cons, List.mem_nil_iff, or_false] at hu; rcases hu with rfl | rfl <;> rfl) (by unfold maxLen; omega) (by omega) (by show base ≤ (W.alloc _).heap.size; simp; omega)
  exact ⟨v', w', hrun, h2, h3⟩
def elPl {ss : List Sc} (kind : Int) (pre : List (El ss)) : List (Int × Int) := plsOf kind (pre.map Subtype.val)
end Go.Proofs.YtjogfagjcpcihaaDoor
namespace Go.Proofs.YtjogfagjcpcihaaDoor
open Go Go.RowKit Go.Maps
attribute [local go_sem] Oper.semAt_some
attribute [local go_sem ↓] field_kind field_name field_scope field_places
theorem cell_kept {w w' : World} {b o : Nat} {v : Value} (hk : CellsKept w.heap.size w w') (h : w.cell? ⟨b, o, none⟩ = some v) : w'.cell? ⟨b, o, none⟩ = some v := hk.cell (World.block_lt_of_cell? _ _ h) h
theorem ownsRow_one {W : World} {base : Nat} (hb : base ≤ W.heap.size) (i j : Int) : (W.alloc (.cells #[.int .i64 i, .int .i64 j] 32)).ownsRow base 32 2 (.slice (some ⟨W.heap.size, 0, none⟩) 1 1) 1 [.int .i64 i, .int .i64 j] :=
  ⟨by simp, .inr ⟨_, 1, _, rfl, hb, heap_alloc_new W _, Nat.le_refl _, by unfold maxLen; omega, by simp, by simp⟩⟩
set_option maxRecDepth 100000 in
set_option maxHeartbeats 4000000 in
theorem meaning_any {ss : List Sc} (hv : Valid ss) {w : World} {B L M T M1 M2 : Nat} {v : Value} {ds : List Nd} (hL : LookW w B L M T M1 M2 v ds ss) {i j : Nat} {x : It} (hq : (i, j, x) ∈ placed 0 ss) :
    Calls Tryd.prog 111 #[.pointer (some ⟨L, 0, none⟩), .agg #[.int .i64 (i : Int), .int .i64 (j : Int)], .agg #[.int .i64 x.kind, .string x.name, .int .i64 x.scope]] w (PlsLeft (meanIt ss (i, j, x)) w B L M T M1 M2 v ds ss) := by
  obtain ⟨c, hsc, hx⟩ := placed_at hq
  dsimp only at hsc hx
  have hb0 : Below w.heap.size w ((w.alloc (.cells #[.int .i64 (i : Int), .int .i64 (j : Int)] 32)).alloc (.cells #[.int .i64 x.kind, .string x.name, .int .i64 x.scope] 42)) := ((Below.refl _ _).alloc (Nat.le_refl _) _).alloc (by simp) _
  have HL1 := Lib.hid (hL.left.step hb0)
  have HS1 := Lib.hid hb0.size
  have RP := Lib.hid ((Row.new w [.int .i64 (i : Int), .int .i64 (j : Int)] 32).alloc (.cells #[.int .i64 x.kind, .string x.name, .int .i64 x.scope] 42))
  have RX : Hid (Row ((w.alloc (.cells #[.int .i64 (i : Int), .int .i64 (j : Int)] 32)).alloc (.cells #[.int .i64 x.kind, .string x.name, .int .i64 x.scope] 42)) (w.heap.size + 1) 42 [.int .i64 x.kind, .string x.name, .int .i64 x.scope]) := Lib.hid (by
    have := Row.new (w.alloc (.cells #[.int .i64 (i : Int), .int .i64 (j : Int)] 32)) [.int .i64 x.kind, .string x.name, .int .i64 x.scope] 42
    rw [World.size_alloc] at this
    exact this)
  have hsl : i < ss.length := (List.getElem?_eq_some_iff.1 hsc).1
  have hdl := hL.tree.hold.len
  obtain ⟨d, hd⟩ : ∃ d, ds[i]? = some d := ⟨_, List.getElem?_eq_getElem (by omega)⟩
  have HV := Lib.hid hv
  have HSX := Lib.hid (And.intro hsc hx)
  have HD := Lib.hid hd
  have x0 := RX.out.cell (i := 0) (by rfl)
  have x1 := RX.out.cell (i := 1) (by rfl)
  have p0 := RP.out.cell (i := 0) (by rfl)
  have p1 := RP.out.cell (i := 1) (by rfl)
  clear hv hL hq hsc hx hb0
  by_cases hk2 : x.kind = 2
  · have hq2 : (x.kind == 2) = true := by simpa using hk2
    have HE : Hid (meanIt ss (i, j, x) = (lookP ss i x.name).places) := Lib.hid (by unfold meanIt; rw [if_pos hk2])
    obtain ⟨g, cap', rfl, hgB, hg, hslot⟩ := HL1.out.look.tree.tree.slot (by intro e; rw [e] at hd; simp at hd)
    have s0 := hslot i d hd
    unfold Nd.ptr at s0
    have t0 := HL1.out.look.tree.tree.box.cell (i := 0) (by rfl)
    have l0 := HL1.out.look.box.cell (i := 0) (by rfl)
    have HLd := Lib.hid (HL1.out.step ((Below.refl _ _).drew))
    have C := Lib.hid (find_node HV.out HLd.out.look HD.out (fun m _ => target_any HV.out m) x.name)
    have hi0 : (0 : Int) ≤ (i : Int) := by omega
    have hi1 : (i : Int) < (ds.length : Int) := by omega
    clear hk2 hslot hd
    go_enter Tryd.func111, Tryd.ntmps111
    go_wp2
    generalize (w.alloc (.cells #[.int .i64 (i : Int), .int .i64 (j : Int)] 32)).alloc (.cells #[.int .i64 x.kind, .string x.name, .int .i64 x.scope] 42) = W at *
    go_region_held3 (fun w' => w'.cell? ⟨L, 0, none⟩ = some (.pointer (some ⟨T, 0, none⟩)) ∧ w'.cell? ⟨T, 0, none⟩ = some (.slice (some ⟨g, 0, none⟩) ds.length cap') ∧ w'.cell? ⟨g, i, none⟩ = some (.pointer (some ⟨d.blk, 0, none⟩)) ∧ w'.cell? ⟨w.heap.size, 0, none⟩ = some (.int .i64 (i : Int)) ∧ w'.cell? ⟨w.heap.size + 1, 1, none⟩ = some (.string x.name))
      (first | exact ⟨l0, t0, s0, p0, x1⟩ | exact ⟨cell_drew l0, cell_drew t0, cell_drew s0, cell_drew p0, cell_drew x1⟩ | exact ⟨cell_kept hc4 (cell_drew l0), cell_kept hc4 (cell_drew t0), cell_kept hc4 (cell_drew s0), cell_kept hc4 (cell_drew p0), cell_kept hc4 (cell_drew x1)⟩)
      (first | (go_at_call 72; refine C.out.mono ?_; rintro e w4 ⟨u4, rfl, hr4, hl4⟩; obtain ⟨o4, c4, rfl⟩ := ownsRow_slice hr4; have hc4 := hl4.turns.cellsM HLd.out.look.memo))
    all_goals go_wp2
    all_goals go_ret
    all_goals exact ⟨_, rfl, by rw [HE.out]; exact ownsRow_lower hr4 (Nat.le_trans HLd.out.turns.size (Nat.le_refl _)), HLd.out.trans hl4⟩
  · have hq2 : (x.kind == 2) = false := by simpa using hk2
    by_cases hk3 : x.kind = 3
    · have hq3 : (x.kind == 3) = true := by simpa using hk3
      have HE : Hid (meanIt ss (i, j, x) = meantP ss i x.name) := Lib.hid (by unfold meanIt; rw [if_neg hk2, if_pos hk3])
      have C := Lib.hid (meantBy_any HV.out HL1.out.look HSX.out.1 HSX.out.2 (fun m _ => target_any HV.out m))
      clear hk2 hk3 hd
      go_enter Tryd.func111, Tryd.ntmps111
      go_wp2_with fail
      refine C.out.mono ?_
      rintro e w4 ⟨u4, rfl, hr4, hl4⟩
      have HR4 := Lib.hid (ownsRow_lower hr4 HS1.out)
      have HL4 := Lib.hid (HL1.out.trans hl4)
      clear hr4 hl4
      go_wp2
      go_ret
      exact ⟨_, rfl, by rw [HE.out]; exact HR4.out, HL4.out⟩
    · have hq3 : (x.kind == 3) = false := by simpa using hk3
      have HE : Hid (meanIt ss (i, j, x) = [((i : Int), (j : Int))]) := Lib.hid (by unfold meanIt; rw [if_neg hk2, if_neg hk3])
      clear hk2 hk3 hd
      have hO := ownsRow_one (W := (w.alloc (.cells #[.int .i64 (i : Int), .int .i64 (j : Int)] 32)).alloc (.cells #[.int .i64 x.kind, .string x.name, .int .i64 x.scope] 42)) HS1.out (i : Int) (j : Int)
      rw [World.size_alloc, World.size_alloc] at hO
      have HO := Lib.hid hO
      clear hO
      go_enter Tryd.func111, Tryd.ntmps111
      go_wp2
      go_ret
      exact ⟨_, rfl, by rw [HE.out]; exact HO.out, HL1.out.step ((Below.refl _ _).alloc (Nat.le_refl _) _)⟩
theorem TreeIs.kept2 {w w' : World} {B T M1 M2 : Nat} {v : Value} {ds : List Nd} {ss : List Sc} (h : TreeIs w B T M1 M2 v ds ss) (hk : CellsKept w.heap.size w w') (h1 : w'.heap[M1]? = w.heap[M1]?) (h2 : w'.heap[M2]? = w.heap[M2]?) : TreeIs w' B T M1 M2 v ds ss where
  tree := h.tree.kept hk (Nat.le_refl _)
  hold := h.hold.keptC hk (Nat.le_refl _)
  pars := h.pars
  items := by obtain ⟨n, hm⟩ := h.items; exact ⟨n, ownsMap_same hm h1⟩
  mods := by obtain ⟨n, hm⟩ := h.mods; exact ⟨n, ownsMap_same hm h2⟩
  low1 := h.low1
  low2 := h.low2
theorem Row.cells {w w' : World} {g : Nat} {t : TypeId} {vs : List Value} (h : Row w g t vs) (hk : CellsKept w.heap.size w w') : Row w' g t vs := hk.block g _ _ _ h.lt h
theorem LookW.kept2 {w w' : World} {B L M T M1 M2 : Nat} {v : Value} {ds : List Nd} {ss : List Sc} (h : LookW w B L M T M1 M2 v ds ss) (hk : CellsKept w.heap.size w w') (h1 : w'.heap[M1]? = w.heap[M1]?) (h2 : w'.heap[M2]? = w.heap[M2]?) (hm : Memo w' M ss) : LookW w' B L M T M1 M2 v ds ss :=
  ⟨h.tree.kept2 hk h1 h2, h.box.cells hk, hm, h.ne1, h.ne2⟩
theorem ResW.kept2 {w w' : World} {B R T M1 M2 MR : Nat} {v : Value} {ds : List Nd} {ss : List Sc} {l : List Ent} (h : ResW w B R T M1 M2 MR v ds ss l) (hk : CellsKept w.heap.size w w') (h1 : w'.heap[M1]? = w.heap[M1]?) (h2 : w'.heap[M2]? = w.heap[M2]?) (h3 : w'.heap[MR]? = w.heap[MR]?) : ResW w' B R T M1 M2 MR v ds ss l :=
  ⟨h.tree.kept2 hk h1 h2, h.box.cells hk, h.mean.kept hk h3, h.full⟩
theorem ResW.lower {w : World} {B B' R T M1 M2 MR : Nat} {v : Value} {ds : List Nd} {ss : List Sc} {l : List Ent} (h : ResW w B R T M1 M2 MR v ds ss l) (hB : B' ≤ B) : ResW w B' R T M1 M2 MR v ds ss l :=
  ⟨{ tree := h.tree.tree.lower hB
     hold := h.tree.hold
     pars := h.tree.pars
     items := h.tree.items
     mods := h.tree.mods
     low1 := Nat.le_trans hB h.tree.low1
     low2 := Nat.le_trans hB h.tree.low2 }, h.box, h.mean.lower hB, h.full⟩
/-- What resolutionOf answers. -/
def ResGot (ss : List Sc) (w : World) (e : Ending) (w' : World) : Prop :=
  (¬ Valid ss ∧ (∃ tp p, e = .returned (.tuple #[.pointer none, .iface tp p])) ∧ Below w.heap.size w w') ∨
  (Valid ss ∧ ∃ R T M1 M2 MR v ds l, e = .returned (.tuple #[.pointer (some ⟨R, 0, none⟩), .nilIface]) ∧ Below w.heap.size w w' ∧ ResW w' w.heap.size R T M1 M2 MR v ds ss l)
/-- What holds when some meanings are laid. -/
structure ResRun (W0 : World) (B M MR : Nat) (ss : List Sc) (pre : List (Nat × Nat × It)) (W : World) : Prop where
  turns : Turns W0 W M MR
  memo : Memo W M ss
  mean : ∃ l : List Ent, l.map Prod.fst = pre ∧ MeanW W B MR ss l
theorem cells_of_grown {A B : World} {row : Option Nat} (hg : A.grownBy B row) (hr : ∀ r, row = some r → ∃ o : Obj, A.heap[r]? = some o ∧ o.isCells = false) : CellsKept A.heap.size A B :=
  ⟨hg.size, fun g vs t fr _ hh => (hg.block g (Array.getElem?_eq_some_iff.1 hh).1 (fun e => by obtain ⟨o, ho, hc⟩ := hr g e.symm; rw [hh] at ho; cases ho; cases hc)).trans hh⟩
theorem resRun_own {W0 : World} {B M MR n : Nat} {ss : List Sc} {α : Type} (f : α → List (Nat × Nat × It)) (hn : W0.heap.size ≤ n) (h1 : M < n) (h2 : MR < n) : OwnFrom n (fun (pre : α) W => ResRun W0 B M MR ss (f pre) W) :=
  fun _ A _ _ hs hg hr => by
    obtain ⟨l, hl, hm⟩ := hs.mean
    exact ⟨hs.turns.grown hg hn (fun r e => (hr r e).1), hs.memo.same (hg.block M hs.memo.lt (fun e => by have := (hr _ e.symm).1; omega)), l, hl, hm.kept (cells_of_grown hg fun r e => (hr r e).2) (hg.block MR hm.lt (fun e => by have := (hr _ e.symm).1; omega))⟩
theorem ResRun.cells {W0 W : World} {B M MR : Nat} {ss : List Sc} {pre : List (Nat × Nat × It)} (h : ResRun W0 B M MR ss pre W) (m1 : Memo W0 M ss) {l0 : List Ent} (m2 : MeanW W0 B MR ss l0) : CellsKept W0.heap.size W0 W := by
  obtain ⟨l, _, _, m⟩ := m1
  exact h.turns.cells m m2.map
theorem mean_nil {w : World} {B MR : Nat} {ss : List Sc} (h : w.ownsMap Tryd.prog 32 sliceR MR 0 (.map [])) : MeanW w B MR ss [] := ⟨h, fun e he => by cases he⟩
theorem hT1 {w : World} {B T M1 M2 : Nat} {v : Value} {ds : List Nd} {ss : List Sc} (h : TreeIs w B T M1 M2 v ds ss) : M1 < w.heap.size ∧ M2 < w.heap.size := by
  obtain ⟨_, h1⟩ := h.items
  obtain ⟨_, h2⟩ := h.mods
  exact ⟨h1.lt, h2.lt⟩
set_option maxRecDepth 100000 in
set_option maxHeartbeats 8000000 in
theorem resolutionOf_any (ss : List Sc) (hF : Fair ss) (oa : Option Addr) (cap : Nat) (w : World) (hc : HoldsScopes w oa ss) (hE : TreeErrs w) :
    Calls Tryd.prog 87 #[.agg #[.slice oa ss.length cap]] w (ResGot ss w) := by
  have hb0 := (Below.refl w.heap.size w).alloc (Nat.le_refl _) (.cells #[.slice oa ss.length cap] 25)
  have C := Lib.hid ((callsIn_wide (n := 5)).2 (hF.tree oa cap _ (hc.below hb0 (Nat.le_refl _)) (hE.below hb0 hE.size)))
  have HB0 := Lib.hid hb0
  have hmm := @run_makeMap Tryd.prog
  clear hF hc hE hb0
  refine (callsIn_wide (n := 6)).1 ?_
  refine callsIn_of_wp_marks Tryd.func87 rfl trivial ?_ rfl
  simp only [Tryd.ntmps87, List.size_toArray, List.length_cons, List.length_nil, Nat.reduceAdd, Nat.reduceSub, Array.replicate_succ, Array.replicate_zero, List.push_toArray, List.append_toArray, List.nil_append, List.cons_append]
  gi_wp2_with fail
  refine ⟨trivial, ?_⟩
  gi_at_call 62
  refine C.out.mono ?_
  rintro e w1 (⟨hv, ⟨tp, p, rfl⟩, hb⟩ | ⟨hv, T, M1, M2, v, ds, rfl, hb, hT⟩)
  · have HB := Lib.hid (HB0.out.trans (hb.mono HB0.out.size))
    have HV := Lib.hid hv
    clear hv hb hmm
    gi_wp2
    exact ⟨_, results_tmp2 rfl _ _ _, .inl ⟨HV.out, ⟨tp, p, rfl⟩, HB.out⟩⟩
  · have HB := Lib.hid (HB0.out.trans (hb.mono HB0.out.size))
    have HV := Lib.hid hv
    have HT := Lib.hid hT
    clear hv hb hT
    gi_wp2_with fail
    refine ⟨trivial, ?_⟩
    gi_at_call 63
    refine ((callsIn_wide (n := 5)).2 (lookupIn_any T _)).mono ?_
    rintro e w3 ⟨rfl, hR3, hM3, hb3⟩
    simp only [World.size_alloc] at hR3 hM3 hb3 ⊢
    have hRS : Row w3 (w1.heap.size + 1) 141 [.pointer (some ⟨T, 0, none⟩), .map (some w1.heap.size)] := by
      have h := (Row.new (w1.alloc (.map #[] 0)) [.pointer (some ⟨T, 0, none⟩), .map (some w1.heap.size)] 141).alloc (.cells #[.pointer (some ⟨w1.heap.size + 1, 0, none⟩)] 135)
      rw [World.size_alloc] at h
      exact h.below hb3 (by omega)
    have hBR : Row w3 (w1.heap.size + 1 + 1) 135 [.pointer (some ⟨w1.heap.size + 1, 0, none⟩)] := by
      have h := Row.new ((w1.alloc (.map #[] 0)).alloc (.cells #[.pointer (some ⟨T, 0, none⟩), .map (some w1.heap.size)] 141)) [.pointer (some ⟨w1.heap.size + 1, 0, none⟩)] 135
      rw [World.size_alloc, World.size_alloc] at h
      exact h.below hb3 (by omega)
    have hMW : MeanW w3 w1.heap.size w1.heap.size ss [] := by
      have h := ((World.ownsMap_made w1 Tryd.prog 32 sliceR).alloc (.cells #[.pointer (some ⟨T, 0, none⟩), .map (some w1.heap.size)] 141)).alloc (.cells #[.pointer (some ⟨w1.heap.size + 1, 0, none⟩)] 135)
      exact (mean_nil h).below (by simp only [World.size_alloc]; exact hb3)
    have hbA : Below w1.heap.size w1 w3 := ((((Below.refl w1.heap.size w1).alloc (Nat.le_refl _) (.map #[] 0)).alloc (by simp) (.cells #[.pointer (some ⟨T, 0, none⟩), .map (some w1.heap.size)] 141)).alloc (by simp; omega) (.cells #[.pointer (some ⟨w1.heap.size + 1, 0, none⟩)] 135)).trans (hb3.mono (by omega))
    have hs3 := hR3.lt
    have hM1 := hT1 HT.out
    have hLW : LookW w3 (w.heap.size + 1) (w1.heap.size + 1 + 1 + 1 + 1) (w1.heap.size + 1 + 1 + 1) T M1 M2 v ds ss := by
      have h := HT.out
      rw [World.size_alloc] at h
      exact LookW.mk (h.below hbA) hR3 (memo_nil hM3) (by omega) (by omega)
    have HRS := Lib.hid hRS
    have HBR := Lib.hid hBR
    have HMW := Lib.hid hMW
    have HBA := Lib.hid hbA
    have HLW := Lib.hid hLW
    have HM1 := Lib.hid hM1
    have HS3 := Lib.hid hs3
    clear hR3 hM3 hb3 hRS hBR hMW hbA hLW hM1 hs3 hmm
    gi_wp2_with fail
    refine ⟨trivial, ?_⟩
    gi_at_call 65
    refine ((callsIn_wide (n := 5)).2 (all_any T _)).mono ?_
    rintro e w5 ⟨rfl, rfl⟩
    have bL0 := Boxed.new w3 102 (.pointer (some ⟨w1.heap.size + 1 + 1 + 1 + 1, 0, none⟩))
    have RL0 := (Row.new w3 [.pointer (some ⟨w1.heap.size + 1 + 1 + 1 + 1, 0, none⟩)] 102).alloc (.cells #[.pointer (some ⟨T, 0, none⟩)] 77)
    have bN := Boxed.new (w3.alloc (.cells #[.pointer (some ⟨w1.heap.size + 1 + 1 + 1 + 1, 0, none⟩)] 102)) 77 (.pointer (some ⟨T, 0, none⟩))
    rw [World.size_alloc] at bN
    have hB35 : Below w3.heap.size w3 ((w3.alloc (.cells #[.pointer (some ⟨w1.heap.size + 1 + 1 + 1 + 1, 0, none⟩)] 102)).alloc (.cells #[.pointer (some ⟨T, 0, none⟩)] 77)) := ((Below.refl _ _).alloc (Nat.le_refl _) _).alloc (by simp) _
    simp only [World.size_alloc]
    have hsz : ((w3.alloc (.cells #[.pointer (some ⟨w1.heap.size + 1 + 1 + 1 + 1, 0, none⟩)] 102)).alloc (.cells #[.pointer (some ⟨T, 0, none⟩)] 77)).heap.size = w3.heap.size + 1 + 1 := by simp
    gi_wp2
    generalize hW0 : (w3.alloc (.cells #[.pointer (some ⟨w1.heap.size + 1 + 1 + 1 + 1, 0, none⟩)] 102)).alloc (.cells #[.pointer (some ⟨T, 0, none⟩)] 77) = W0 at RL0 bN hB35 hsz ⊢
    clear hW0 bL0
    have HRL := Lib.hid RL0
    have HBN := Lib.hid bN.cell
    have HB35 := Lib.hid hB35
    have HLW0 := Lib.hid (HLW.out.below hB35)
    have HMW0 := Lib.hid (HMW.out.below hB35)
    have hBx := HBA.out.trans (hB35.mono HBA.out.size)
    have HBX := Lib.hid hBx
    have hsm := HV.out.small
    have h30 := placed_bound 0 ss 6 5 HV.out.count.2 HV.out.five
    clear RL0 bN hB35
    refine wpIn_rangeFunc_ownH rfl (by omega) (gf := 101) (lb := #[.pointer (some ⟨w3.heap.size + 1, 0, none⟩)]) rfl trivial (enters_of Tryd.func101 (by kernel_rfl) rfl)
      (all_stops 5 (by omega) (w3.heap.size + 1) _ T M1 M2 v ds ss w1 _ HT.out.tree HT.out.hold (HT.out.ne HV.out) hsm.len hsm.items (.of_below hBx) HBN.out) CellsKept.trans (fun W l o o' _ h1 h2 h3 => cellsKept_b (w := w1) W l o o' (by have := HS3.out; simp at *; omega) h1 h2 h3) (Below.refl _ _) (fun _ => rfl)
      (fun pre W => ResRun W0 w1.heap.size (w1.heap.size + 1 + 1 + 1) w1.heap.size ss (pre.map Subtype.val) W)
      (fun _ _ _ => False)
      (resRun_own _ (Nat.le_refl _) (by have := HS3.out; omega) (by have := HS3.out; omega))
      (fun _ _ _ _ _ hs _ _ => hs)
      ⟨Turns.refl _ _ _, HLW0.out.memo, [], rfl, HMW0.out⟩
      (fun x a' W => ∃ Bp Bx, Row W Bp 32 [.int .i64 (x.1.1 : Int), .int .i64 (x.1.2.1 : Int)] ∧ Row W Bx 42 [.int .i64 x.1.2.2.kind, .string x.1.2.2.name, .int .i64 x.1.2.2.scope] ∧
        a' = { tmps := #[.agg #[.slice oa ss.length cap], .pointer (some ⟨w.heap.size, 0, none⟩), .pointer none, .nilIface, .pointer (some ⟨T, 0, none⟩), .nilIface, .pointer (some ⟨w1.heap.size + 1 + 1, 0, none⟩), .pointer (some ⟨w3.heap.size, 0, none⟩), .pointer (some ⟨Bp, 0, none⟩), .pointer (some ⟨Bx, 0, none⟩), .tuple #[.pointer (some ⟨T, 0, none⟩), .nilIface], .agg #[.slice oa ss.length cap], .tuple #[.pointer (some ⟨T, 0, none⟩), .nilIface], .pointer (some ⟨T, 0, none⟩), .nilIface, .nilIface, .bool false, undef, .pointer (some ⟨T, 0, none⟩), .map (some w1.heap.size), .agg #[.pointer (some ⟨T, 0, none⟩), .map (some w1.heap.size)], .pointer (some ⟨w1.heap.size + 1, 0, none⟩), .pointer (some ⟨T, 0, none⟩), .pointer (some ⟨w1.heap.size + 1 + 1 + 1 + 1, 0, none⟩), .pointer (some ⟨T, 0, none⟩), .func (.func 101) #[] #[.pointer (some ⟨w3.heap.size + 1, 0, none⟩)], .agg #[.int .i64 (x.1.1 : Int), .int .i64 (x.1.2.1 : Int)], .agg #[.int .i64 x.1.2.2.kind, .string x.1.2.2.name, .int .i64 x.1.2.2.scope], undef, undef, undef, undef, undef, undef, undef, undef, undef, undef], defers := [] })
      (fun x a' _ X Y row hs hg hr => by obtain ⟨Bp, Bx, h1, h2, h3⟩ := hs; exact ⟨Bp, Bx, h1.kept_cells hg (fun r e => (hr r e).2), h2.kept_cells hg (fun r e => (hr r e).2), h3⟩)
      ?assign ?body ?done ?stop
    case assign =>
      rintro l pre x W K hi hK
      dsimp only [elArgs]
      gi_wp2
      have ha : Below W.heap.size W ((W.alloc (.cells #[.int .i64 (x.1.1 : Int), .int .i64 (x.1.2.1 : Int)] 32)).alloc (.cells #[.int .i64 x.1.2.2.kind, .string x.1.2.2.name, .int .i64 x.1.2.2.scope] 42)) := ((Below.refl _ _).alloc (Nat.le_refl _) _).alloc (by simp) _
      obtain ⟨le, hle, hme⟩ := hi.mean
      refine hK _ _ (((KeepsOthers.alloc _ _).trans (KeepsOthers.alloc _ _)).from _) ((CellsKept.of_below ha).mono (Nat.le_trans HBX.out.size hi.turns.size)) ⟨hi.turns.trans (.of_below ha), hi.memo.below ha, le, hle, hme.below ha⟩ ⟨W.heap.size, W.heap.size + 1, ?_, ?_, rfl⟩
      · exact (Row.new W [.int .i64 (x.1.1 : Int), .int .i64 (x.1.2.1 : Int)] 32).alloc _
      · have := Row.new (W.alloc (.cells #[.int .i64 (x.1.1 : Int), .int .i64 (x.1.2.1 : Int)] 32)) [.int .i64 x.1.2.2.kind, .string x.1.2.2.name, .int .i64 x.1.2.2.scope] 42
        rw [World.size_alloc] at this
        exact this
    case body =>
      rintro l pre x a' W hl _ hi ⟨Bp, Bx, hp, hx, rfl⟩ hlen
      obtain ⟨⟨i, j, it⟩, hmem⟩ := x
      dsimp only at hp hx ⊢
      have hck := hi.cells HLW0.out.memo HMW0.out
      have hw1 := HBX.out.size
      have hM := HM1.out
      have h3 := HS3.out
      have hLWW := HLW0.out.kept2 hck (hi.turns.rest M1 (by omega) (by omega) (by omega)) (hi.turns.rest M2 (by omega) (by omega) (by omega)) hi.memo
      have c0 := ((HRS.out.below HB35.out HRS.out.lt).cells hck).cell (i := 1) (by rfl)
      have c1 := ((HBR.out.below HB35.out HBR.out.lt).cells hck).cell (i := 0) (by rfl)
      have c2 := (HRL.out.cells hck).cell (i := 0) (by rfl)
      have p0 := hp.cell (i := 0) (by rfl)
      have p1 := hp.cell (i := 1) (by rfl)
      have x0 := hx.cell (i := 0) (by rfl)
      have x1 := hx.cell (i := 1) (by rfl)
      have x2 := hx.cell (i := 2) (by rfl)
      have C2 := Lib.hid ((callsIn_wide (n := 3)).2 (meaning_any HV.out (hLWW.below ((Below.refl _ _).drew)) hmem))
      have HI := Lib.hid hi
      have HLWW := Lib.hid hLWW
      have HMEM := Lib.hid hmem
      have HLEN := Lib.hid hlen
      clear hck hi hLWW hp hx hM
      gi_wp2
      refine wpIn_region_kept (F := Fence.wide) (S := fun w' => w'.cell? ⟨w1.heap.size + 1, 1, none⟩ = some (.map (some w1.heap.size)) ∧ w'.cell? ⟨w1.heap.size + 1 + 1, 0, none⟩ = some (.pointer (some ⟨w1.heap.size + 1, 0, none⟩)) ∧ w'.cell? ⟨w3.heap.size, 0, none⟩ = some (.pointer (some ⟨w1.heap.size + 1 + 1 + 1 + 1, 0, none⟩)) ∧
        w'.cell? ⟨Bp, 0, none⟩ = some (.int .i64 (i : Int)) ∧ w'.cell? ⟨Bp, 1, none⟩ = some (.int .i64 (j : Int)) ∧ w'.cell? ⟨Bx, 0, none⟩ = some (.int .i64 it.kind) ∧ w'.cell? ⟨Bx, 1, none⟩ = some (.string it.name) ∧ w'.cell? ⟨Bx, 2, none⟩ = some (.int .i64 it.scope)) 1000 l (by kernel_rfl) (by kernel_rfl) ?_
      have hS0 := And.intro (cell_drew c0) (And.intro (cell_drew c1) (And.intro (cell_drew c2) (And.intro (cell_drew p0) (And.intro (cell_drew p1) (And.intro (cell_drew x0) (And.intro (cell_drew x1) (cell_drew x2)))))))
      refine KeptAny.take (i := 0) (v := ?_) (by kernel_rfl) rfl rfl (by kernel_rfl) (by kernel_rfl) (by kernel_rfl) (fun _ _ _ h => h) (by rfl) (fun w' hw' => ?_) (fun _ => rfl) hS0 ?_
      rotate_left
      · (obtain ⟨s0, s1, s2, s3, s4, s5, s6, s7⟩ := hw'; go_simp; try with_reducible rfl)
      refine KeptAny.take (i := 1) (v := ?_) (by kernel_rfl) rfl rfl (by kernel_rfl) (by kernel_rfl) (by kernel_rfl) (fun _ _ _ h => h) (by rfl) (fun w' hw' => ?_) (fun _ => rfl) hS0 ?_
      rotate_left
      · (obtain ⟨s0, s1, s2, s3, s4, s5, s6, s7⟩ := hw'; go_simp; try with_reducible rfl)
      refine KeptAny.take (i := 2) (v := ?_) (by kernel_rfl) rfl rfl (by kernel_rfl) (by kernel_rfl) (by kernel_rfl) (fun _ _ _ h => h) (by rfl) (fun w' hw' => ?_) (fun _ => rfl) hS0 ?_
      rotate_left
      · (obtain ⟨s0, s1, s2, s3, s4, s5, s6, s7⟩ := hw'; go_simp; try with_reducible rfl)
      refine KeptAny.take (i := 3) (v := ?_) (by kernel_rfl) rfl rfl (by kernel_rfl) (by kernel_rfl) (by kernel_rfl) (fun _ _ _ h => h) (by rfl) (fun w' hw' => ?_) (fun _ => rfl) hS0 ?_
      rotate_left
      · (obtain ⟨s0, s1, s2, s3, s4, s5, s6, s7⟩ := hw'; go_simp; try with_reducible rfl)
      refine KeptAny.take (i := 4) (v := ?_) (by kernel_rfl) rfl rfl (by kernel_rfl) (by kernel_rfl) (by kernel_rfl) (fun _ _ _ h => h) (by rfl) (fun w' hw' => ?_) (fun _ => rfl) hS0 ?_
      rotate_left
      · (obtain ⟨s0, s1, s2, s3, s4, s5, s6, s7⟩ := hw'; go_simp; try with_reducible rfl)
      refine KeptAny.take (i := 5) (v := ?_) (by kernel_rfl) rfl rfl (by kernel_rfl) (by kernel_rfl) (by kernel_rfl) (fun _ _ _ h => h) (by rfl) (fun w' hw' => ?_) (fun _ => rfl) hS0 ?_
      rotate_left
      · (obtain ⟨s0, s1, s2, s3, s4, s5, s6, s7⟩ := hw'; go_simp; try with_reducible rfl)
      refine KeptAny.take (i := 6) (v := ?_) (by kernel_rfl) rfl rfl (by kernel_rfl) (by kernel_rfl) (by kernel_rfl) (fun _ _ _ h => h) (by rfl) (fun w' hw' => ?_) (fun _ => rfl) hS0 ?_
      rotate_left
      · (obtain ⟨s0, s1, s2, s3, s4, s5, s6, s7⟩ := hw'; go_simp; try with_reducible rfl)
      refine KeptAny.take (i := 7) (v := ?_) (by kernel_rfl) rfl rfl (by kernel_rfl) (by kernel_rfl) (by kernel_rfl) (fun _ _ _ h => h) (by rfl) (fun w' hw' => ?_) (fun _ => rfl) hS0 ?_
      rotate_left
      · (obtain ⟨s0, s1, s2, s3, s4, s5, s6, s7⟩ := hw'; go_simp; try with_reducible rfl)
      refine KeptAny.one (i := 8) (by kernel_rfl) rfl (by rfl) (fun K hK => ?_)
      go_simp
      refine ⟨trivial, ?_⟩
      refine C2.out.mono ?_
      rintro e w4 ⟨u, rfl, hu, hl4⟩
      obtain ⟨le, hle, hme⟩ := HI.out.mean
      have hck4 : CellsKept W.drew.heap.size W.drew w4 := hl4.turns.cellsM (ss := ss) (HLWW.out.memo.below ((Below.refl _ _).drew))
      have hme4 := (hme.below ((Below.refl _ _).drew)).kept hck4 (hl4.turns.rest w1.heap.size (by have := HI.out.turns.size; show w1.heap.size < W.heap.size; omega) (by omega) (by omega))
      have hll : le.length < 1000 := by
        have h1 := congrArg List.length hle
        rw [List.length_map, List.length_map] at h1
        have h2 := HLEN.out
        omega
      obtain ⟨w6, hrun6, hme6, hg6⟩ := mean_put HV.out hme4 hll HMEM.out (ownsRow_lower hu (show w1.heap.size ≤ W.heap.size by have := HI.out.turns.size; omega))
      have hS4 := And.intro (cell_kept hck4 (cell_drew c0)) (And.intro (cell_kept hck4 (cell_drew c1)) (And.intro (cell_kept hck4 (cell_drew c2)) (And.intro (cell_kept hck4 (cell_drew p0)) (And.intro (cell_kept hck4 (cell_drew p1)) (And.intro (cell_kept hck4 (cell_drew x0)) (And.intro (cell_kept hck4 (cell_drew x1)) (cell_kept hck4 (cell_drew x2))))))))
      have hck6 : CellsKept w4.heap.size w4 w6 := cells_of_grown hg6 (fun r e => by
        cases e
        obtain ⟨es, clock, h1, _⟩ := hme4.map
        exact ⟨_, h1, rfl⟩)
      have hT46 : Turns W w6 (w1.heap.size + 1 + 1 + 1) w1.heap.size := ((Turns.of_below ((Below.refl W.heap.size W).drew)).trans ⟨hl4.turns.os, hl4.turns.tape, hl4.turns.output, hl4.turns.size, fun g hg h1 _ => hl4.turns.rest g hg h1 h1⟩).trans (.of_grown hg6 (.inr rfl))
      have HEND : Hid (ResRun W0 w1.heap.size (w1.heap.size + 1 + 1 + 1) w1.heap.size ss ((pre ++ [(⟨(i, j, it), HMEM.out⟩ : El ss)]).map Subtype.val) w6) := Lib.hid
        ⟨HI.out.turns.trans hT46, hl4.look.memo.same (hg6.block _ hl4.look.memo.lt (fun e => by have := Option.some.inj e; omega)), le ++ [((i, j, it), u)], by rw [List.map_append, List.map_append, hle]; rfl, hme6⟩
      have HT46 := Lib.hid hT46
      have HC46 : Hid (CellsKept W.heap.size W w6) := Lib.hid (by
        obtain ⟨lm, _, _, m⟩ := HI.out.memo
        exact hT46.cells m hme.map)
      refine hK.out _ _ hS4 (fun hS => ?_)
      refine KeptAny.one (i := 9) (by kernel_rfl) rfl (by rfl) (fun K' hK' => ?_)
      have HCK6 := Lib.hid hck6
      have HS := Lib.hid hS
      clear hme hme4 hme6 hg6 hT46 hl4 hu hle C2 hK hck6 hck4
      go_simp
      refine hK'.out _ _ ?_ (fun _ => ?_)
      · obtain ⟨s0, s1, s2, s3, s4, s5, s6, s7⟩ := HS.out
        exact ⟨cell_kept HCK6.out s0, cell_kept HCK6.out s1, cell_kept HCK6.out s2, cell_kept HCK6.out s3, cell_kept HCK6.out s4, cell_kept HCK6.out s5, cell_kept HCK6.out s6, cell_kept HCK6.out s7⟩
      refine KeptAny.done (by kernel_rfl) ?_ _
      gi_wp2
      exact ⟨HT46.out.keepsFrom (by omega) (by omega), HC46.out.mono (Nat.le_trans hw1 HI.out.turns.size), HEND.out⟩
    case done =>
      rintro D xs W hD hS hi hK
      have hck := hi.cells HLW0.out.memo HMW0.out
      have hw1 := HBX.out.size
      have hM := HM1.out
      have h3 := HS3.out
      have c1 := ((HBR.out.below HB35.out HBR.out.lt).cells hck).cell (i := 0) (v := .pointer (some ⟨w1.heap.size + 1, 0, none⟩)) (by rfl)
      have hBW : Below w.heap.size w W := (HB.out.trans (HBX.out.mono HB.out.size)).trans (hi.turns.below (by have := HB.out.size; omega) (by have := HB.out.size; omega) (by have := HB.out.size; omega))
      obtain ⟨le, hle, hme⟩ := hi.mean
      have hRW : ResW W w.heap.size (w1.heap.size + 1) T M1 M2 w1.heap.size v ds ss le :=
        ⟨{ tree := (HLW0.out.tree.tree.lower (by omega)).kept hck (Nat.le_refl _)
           hold := HLW0.out.tree.hold.keptC hck (Nat.le_refl _)
           pars := HLW0.out.tree.pars
           items := by obtain ⟨n, h⟩ := HLW0.out.tree.items; exact ⟨n, ownsMap_same h (hi.turns.rest M1 (by omega) (by omega) (by omega))⟩
           mods := by obtain ⟨n, h⟩ := HLW0.out.tree.mods; exact ⟨n, ownsMap_same h (hi.turns.rest M2 (by omega) (by omega) (by omega))⟩
           low1 := Nat.le_trans (by omega) HLW0.out.tree.low1
           low2 := Nat.le_trans (by omega) HLW0.out.tree.low2 }, (HRS.out.below HB35.out HRS.out.lt).cells hck, hme.lower HB.out.size, by rw [hle, hS]⟩
      have hDD : W0.heap.size ≤ D := by omega
      have HRW := Lib.hid hRW
      have HBW := Lib.hid hBW
      have HK := Lib.hid hK
      clear hi hck hRW hBW hme hle hS hD
      gi_wp2
      refine ⟨by simp, .inl ⟨_, _, rfl, run_takeDeferred HK.out, ?_⟩⟩
      refine ⟨_, results_tmp2 rfl _ _ _, .inr ⟨HV.out, w1.heap.size + 1, T, M1, M2, w1.heap.size, v, ds, le, rfl, HBW.out.trans (belowK_b (w := w) (Nat.le_refl _) W D _ _ (by have := HB.out.size; omega) HK.out rfl rfl), ?_⟩⟩
      exact HRW.out.kept2 (CellsKept.putObj W D _ _ HK.out rfl) (World.putObj_heap_other (by omega)) (World.putObj_heap_other (by omega)) (World.putObj_heap_other (by omega))
    case stop =>
      rintro D c pre W _ _ h _
      exact h.elim
end Go.Proofs.YtjogfagjcpcihaaDoor
namespace Go.Proofs.YtjogfagjcpcihaaDoor
open Go Go.RowKit Go.Maps
attribute [local go_sem ↓] field_kind field_name field_scope
set_option maxRecDepth 100000 in
set_option maxHeartbeats 4000000 in
theorem specMeant_any (ss : List Sc) (hv : Valid ss) (hf : FitsScopes ss) (oa : Option Addr) (cap : Nat) (s : Nat) (hs : s < ss.length) (nm : ByteArray) (w : World) (hc : HoldsScopes w oa ss) :
    Calls Tryd.prog 109 #[.agg #[.slice oa ss.length cap], .int .i64 (s : Int), .string nm] w (PlsGot (meantP ss s nm) w) := by
  have hb0 := (Below.refl w.heap.size w).alloc (Nat.le_refl _) (.cells #[.slice oa ss.length cap] 25)
  have R := Lib.hid (Row.new w [.slice oa ss.length cap] 25)
  have g2 := R.out.cell (i := 0) (by rfl)
  have HB0 := Lib.hid hb0
  have HC := Lib.hid hc
  have HV := Lib.hid hv
  have HF := Lib.hid hf
  have HS := Lib.hid hs
  clear hv hf hc hb0 hs
  go_enter Tryd.func109, Tryd.ntmps109
  go_wp2
  go_cut [6] (fun s6 wx => ∃ o4 c4, s6 = .slice o4 (meantP ss s nm).length c4 ∧ wx.ownsRow w.heap.size 32 2 (.slice o4 (meantP ss s nm).length c4) (meantP ss s nm).length (placeCells (meantP ss s nm)) ∧ Below w.heap.size w wx)
  case first =>
    go_region_held3 (fun w' => w'.cell? ⟨w.heap.size, 0, none⟩ = some (.slice oa ss.length cap))
      (first | exact g2 | exact cell_drew g2 | exact cell_grow hb3 (cell_drew g2) | exact cell_grow hb4 (cell_grow hb3 (cell_drew g2)))
      (first | (go_at_call 127; refine (specTable_any ss HV.out HF.out oa cap _ (HC.out.below HB0.out.drew (Nat.le_refl _))).mono ?_; rintro e w3 ⟨o3, c3, rfl, ht3, -, hb3⟩) | (go_at_call 126; refine (specMeantBy_any ss HV.out oa cap ss.length (Nat.le_refl _) o3 c3 s (Nat.le_of_lt HS.out) HS.out nm _ (HC.out.below (HB0.out.drew.trans (hb3.mono HB0.out.drew.size)) (Nat.le_refl _)) ht3).mono ?_; rintro e w4 ⟨v4, rfl, hrow4, hb4⟩; obtain ⟨o4, c4, rfl⟩ := ownsRow_slice hrow4))
    all_goals go_wp2
    all_goals go_meet
    all_goals exact ⟨o4, c4, rfl, ownsRow_lower hrow4 (Nat.le_trans HB0.out.drew.size hb3.size), (HB0.out.drew.trans (hb3.mono HB0.out.drew.size)).trans (hb4.mono (Nat.le_trans HB0.out.drew.size hb3.size))⟩
  case rest =>
    obtain ⟨o4, c4, rfl, hrow4, hbc⟩ := hcut
    have HR := Lib.hid hrow4
    have HBC := Lib.hid hbc
    clear hrow4 hbc
    go_wp2
    go_ret
    exact ⟨_, rfl, HR.out, HBC.out⟩
theorem meantP_length {ss : List Sc} (hv : Valid ss) (s : Nat) (nm : ByteArray) : (meantP ss s nm).length ≤ 25 := by
  unfold meantP meantF
  split
  · split
    · simp
    · exact lookF_length hv _ _
  · have := ownP_length hv s nm; omega
/-- What ImportTarget answers. -/
def TgtVal (ss : List Sc) (a b z : Int) : Prop := (Valid ss ∧ ∃ x, itemAtP ss a b = some x ∧ x.kind = 3 ∧ z = targetP ss a.toNat x.name) ∨ (¬ (Valid ss ∧ ∃ x, itemAtP ss a b = some x ∧ x.kind = 3) ∧ z = -1)
theorem TgtVal.same {ss : List Sc} {a b z z' : Int} (h : TgtVal ss a b z) (k : TgtVal ss a b z') : z = z' := by
  rcases h with ⟨hv, x, hx, hk, rfl⟩ | ⟨hn, rfl⟩
  · rcases k with ⟨_, y, hy, _, rfl⟩ | ⟨kn, _⟩
    · rw [hx] at hy; cases hy; rfl
    · exact absurd ⟨hv, x, hx, hk⟩ kn
  · rcases k with ⟨kv, y, hy, kk, _⟩ | ⟨_, rfl⟩
    · exact absurd ⟨kv, y, hy, kk⟩ hn
    · rfl
def TgtGot (ss : List Sc) (a b : Int) (w : World) (e : Ending) (w' : World) : Prop := ∃ z, e = .returned (.int .i64 z) ∧ TgtVal ss a b z ∧ Below w.heap.size w w'
theorem itemAtP_some {ss : List Sc} {a b : Int} {x : It} (h : itemAtP ss a b = some x) : ∃ (i j : Nat) (c : Sc), a = (i : Int) ∧ b = (j : Int) ∧ ss[i]? = some c ∧ c.items[j]? = some x := by
  unfold itemAtP at h
  split at h
  · rename_i h0
    cases hc : ss[a.toNat]? with
    | none => rw [hc] at h; cases h
    | some c =>
      rw [hc] at h
      exact ⟨a.toNat, b.toNat, c, by omega, by omega, hc, h⟩
  · cases h
theorem look_any {w : World} {B T M1 M2 : Nat} {v : Value} {ds : List Nd} {ss : List Sc} (hv : Valid ss) (hT : TreeIs w B T M1 M2 v ds ss) {a b : Int} (w1 : (Lit.int .i64 a).wf = true) (w2 : (Lit.int .i64 b).wf = true) :
    (Instr.lookup 86 (.map (some M1)) (.agg #[.int .i64 a, .int .i64 b]) false).run Tryd.prog w = .ok (.agg #[.int .i64 ((itemAtP ss a b).getD zeroIt).kind, .string ((itemAtP ss a b).getD zeroIt).name, .int .i64 ((itemAtP ss a b).getD zeroIt).scope]) w := by
  obtain ⟨_, hat⟩ := look_item hv.small w1 w2
  obtain ⟨n1, hm⟩ := hT.items
  obtain ⟨v1, ps, hrun, hv1⟩ := hm.lookup (t := 86) (e := 42) placeLaw Tryd.underlying86 (zeroItem _) (itemR_mk zeroIt) (pl_key w1 w2)
  rw [hat] at hv1
  obtain rfl := itemR_eq hv1
  exact hrun
end Go.Proofs.YtjogfagjcpcihaaDoor
namespace Go.Proofs.YtjogfagjcpcihaaDoor
open Go Go.RowKit Go.Maps
attribute [local go_sem ↓] field_kind field_name field_scope field_places
/-- What the meanings answer at an item's place. -/
theorem mean_at {w : World} {B MR : Nat} {ss : List Sc} {l : List Ent} (hv : Valid ss) (h : MeanW w B MR ss l) (hf : l.map Prod.fst = placed 0 ss) {i j : Nat} {x : It} (hq : (i, j, x) ∈ placed 0 ss) :
    ∃ u, (Instr.lookup 139 (.map (some MR)) (.agg #[.int .i64 (i : Int), .int .i64 (j : Int)]) true).run Tryd.prog w = .ok (.tuple #[u, .bool true]) w ∧
      (Instr.lookup 139 (.map (some MR)) (.agg #[.int .i64 (i : Int), .int .i64 (j : Int)]) false).run Tryd.prog w = .ok u w ∧ w.ownsRow B 32 2 u (meanIt ss (i, j, x)).length (placeCells (meanIt ss (i, j, x))) := by
  have hlt := hv.small.lt hq
  have hx := placed_item hq
  dsimp only at hx hlt
  obtain ⟨u, h1, h2, h3⟩ := mean_look hv h hf (wf_small hlt.1) (wf_small hlt.2)
  rw [hx] at h1
  rcases h3 with ⟨h4, _⟩ | ⟨i', j', y, hi, hj, hy, _, h5⟩
  · rw [hx] at h4; cases h4
  · obtain rfl : i = i' := by omega
    obtain rfl : j = j' := by omega
    rw [hx] at hy
    cases hy
    exact ⟨u, h1, h2, h5⟩
/-- What the meanings answer at an item's place is one value wherever the map is the same. -/
theorem mean_fix {w : World} {B MR : Nat} {ss : List Sc} {l : List Ent} (hv : Valid ss) (h : MeanW w B MR ss l) (hf : l.map Prod.fst = placed 0 ss) {i j : Nat} {x : It} (hq : (i, j, x) ∈ placed 0 ss) :
    ∃ u, (∀ w' : World, w'.heap[MR]? = w.heap[MR]? → (Instr.lookup 139 (.map (some MR)) (.agg #[.int .i64 (i : Int), .int .i64 (j : Int)]) false).run Tryd.prog w' = .ok u w') ∧ w.ownsRow B 32 2 u (meanIt ss (i, j, x)).length (placeCells (meanIt ss (i, j, x))) := by
  have hlt := hv.small.lt hq
  dsimp only at hlt
  obtain ⟨e, he, hqe⟩ := List.mem_map.1 (hf ▸ hq)
  have e0 := putInto_at entKey entVal entKey_is (sliceD (.slice none 0 0)) l (.map []) nilMap (by rw [entKeys, hf]; exact plKey_apart hv.small) e he
  have ek : entKey e = plLit (i : Int) (j : Int) := by unfold entKey; rw [hqe]; rfl
  rw [ek] at e0
  have hl := h.lists e he
  have e0' : (entsD l).atKey (plLit (i : Int) (j : Int)) (sliceD (.slice none 0 0)) = sliceD e.2 := e0
  refine ⟨e.2, fun w' hw => ?_, by rw [hqe] at hl; exact hl⟩
  obtain ⟨v2, ps2, hrun2, hv2⟩ := (ownsMap_same h.map hw).lookup (t := 139) (e := 46) placeLaw Tryd.underlying139 (zeroSlice _) (by rfl) (pl_key (wf_small hlt.1) (wf_small hlt.2))
  obtain rfl := sliceR_eq (sliceR_own hl) (e0' ▸ hv2)
  exact hrun2
/-- There is an item; what it means. -/
def meanAt (ss : List Sc) (a b : Int) : List (Int × Int) := match itemAtP ss a b with
  | none => []
  | some x => meanIt ss (a.toNat, b.toNat, x)
theorem meanAt_of {ss : List Sc} {i j : Nat} {x : It} (h : (i, j, x) ∈ placed 0 ss) : meanAt ss (i : Int) (j : Int) = meanIt ss (i, j, x) := by
  have := placed_item h
  dsimp only at this
  unfold meanAt
  rw [this]
  rfl
theorem itemHas_of {ss : List Sc} (hv : Valid ss) {i j : Nat} {x : It} (h : (i, j, x) ∈ placed 0 ss) : itemHas ss (i : Int) (j : Int) := by
  have := placed_item h
  dsimp only at this
  exact ⟨hv, by rw [this]; rfl⟩
/-- What StateOf answers. -/
def StVal (ss : List Sc) (a b z : Int) : Prop := (Valid ss ∧ ∃ i j x, a = (i : Nat) ∧ b = (j : Nat) ∧ (i, j, x) ∈ placed 0 ss ∧ z = stateIt ss (i, j, x)) ∨ (¬ itemHas ss a b ∧ z = 0)
theorem StVal.same {ss : List Sc} {a b z z' : Int} (h : StVal ss a b z) (k : StVal ss a b z') : z = z' := by
  rcases h with ⟨hv, i, j, x, rfl, rfl, hx, rfl⟩ | ⟨hn, rfl⟩
  · rcases k with ⟨_, i', j', y, hi, hj, hy, rfl⟩ | ⟨kn, _⟩
    · obtain rfl : i = i' := by omega
      obtain rfl : j = j' := by omega
      have h1 := placed_item hx
      have h2 := placed_item hy
      dsimp only at h1 h2
      rw [h1] at h2
      cases h2
      rfl
    · exact absurd (itemHas_of hv hx) kn
  · rcases k with ⟨kv, i', j', y, rfl, rfl, hy, _⟩ | ⟨_, rfl⟩
    · exact absurd (itemHas_of kv hy) hn
    · rfl
def StGot (ss : List Sc) (a b : Int) (w : World) (e : Ending) (w' : World) : Prop := ∃ z, e = .returned (.int .i64 z) ∧ StVal ss a b z ∧ Below w.heap.size w w'
end Go.Proofs.YtjogfagjcpcihaaDoor
namespace Go.Proofs.YtjogfagjcpcihaaDoor
open Go Go.RowKit
def plOf (q : Nat × Nat × It) : Int × Int := ((q.1 : Int), (q.2.1 : Int))
/-- The places of those that pass a test. -/
def filtL (f : Nat × Nat × It → Bool) (l : List (Nat × Nat × It)) : List (Int × Int) := (l.filter f).map plOf
theorem filtL_snoc (f : Nat × Nat × It → Bool) (l : List (Nat × Nat × It)) (q : Nat × Nat × It) : filtL f (l ++ [q]) = filtL f l ++ if f q = true then [plOf q] else [] := by
  unfold filtL
  rw [List.filter_append, List.map_append]
  congr 1
  cases h : f q <;> simp [h]
theorem filtL_length (f : Nat × Nat × It → Bool) (l : List (Nat × Nat × It)) : (filtL f l).length ≤ l.length := by
  unfold filtL
  rw [List.length_map]
  exact List.length_filter_le _ _
theorem filtL_decls {f : Nat × Nat × It → Bool} (h : ∀ q, f q = true → q.2.2.kind = 1) (ss : List Sc) : filtL f (declsP ss) = filtL f (placed 0 ss) := by
  unfold filtL declsP
  rw [List.filter_filter]
  congr 1
  apply List.filter_congr
  intro q _
  cases hq : f q
  · simp
  · simp [h q hq]
/-- Is a declaration found by its name from a scope? -/
def foundB (ss : List Sc) (s : Nat) (q : Nat × Nat × It) : Bool := decide (plOf q ∈ (lookP ss s q.2.2.name).places)
def seesB (ss : List Sc) (s : Nat) (q : Nat × Nat × It) : Bool := q.2.2.kind == 1 && foundB ss s q
def hidB (ss : List Sc) (s : Nat) (q : Nat × Nat × It) : Bool := q.2.2.kind == 1 && (decide (q.1 ∈ chainP ss s) && !foundB ss s q)
theorem sees_kind {ss : List Sc} {s : Nat} : ∀ q, seesB ss s q = true → q.2.2.kind = 1 := fun q h => by
  unfold seesB at h
  simp only [Bool.and_eq_true, beq_iff_eq] at h
  exact h.1
theorem hid_kind {ss : List Sc} {s : Nat} : ∀ q, hidB ss s q = true → q.2.2.kind = 1 := fun q h => by
  unfold hidB at h
  simp only [Bool.and_eq_true, beq_iff_eq] at h
  exact h.1
theorem decl_kind {ss : List Sc} {q : Nat × Nat × It} (h : q ∈ declsP ss) : q ∈ placed 0 ss ∧ q.2.2.kind = 1 := by
  unfold declsP at h
  rw [List.mem_filter, beq_iff_eq] at h
  exact h
theorem declsP_map (ss : List Sc) : plsP ss 1 = (declsP ss).map plOf := rfl
end Go.Proofs.YtjogfagjcpcihaaDoor
namespace Go.Proofs.YtjogfagjcpcihaaDoor
open Go Go.RowKit
set_option maxRecDepth 100000 in
set_option maxHeartbeats 1600000 in
theorem l5In_any (ps : List (Int × Int)) (oa : Option Addr) (cap : Nat) (a b : Int) (w : World) (hn : ps.length ≤ 1000000) (ha : ArgPlaces w oa ps) :
    Calls Tryd.prog 102 #[.slice oa ps.length cap, .agg #[.int .i64 a, .int .i64 b]] w fun e w' => e = .returned (.bool (decide ((a, b) ∈ ps))) ∧ Below w.heap.size w w' := by
  have hb0 := (Below.refl w.heap.size w).alloc (Nat.le_refl _) (.cells #[.int .i64 a, .int .i64 b] 32)
  have RP := Lib.hid (Row.new w [.int .i64 a, .int .i64 b] 32)
  have HB0 := Lib.hid hb0
  have HA := Lib.hid ha
  clear hb0 ha
  go_enter Tryd.func102, Tryd.ntmps102
  go_wp2
  go_loopw [9] (fun i wr => ∃ k : Nat, i = .int .i64 k ∧ k ≤ ps.length ∧ Hid ((a, b) ∉ ps.take k) ∧ Hid (Below w.heap.size w wr ∧ Row wr w.heap.size 32 [.int .i64 a, .int .i64 b])) (fun i _ => ps.length - (intOf i).toNat)
  case atStart => exact ⟨0, rfl, Nat.zero_le _, Lib.hid (by simp), Lib.hid ⟨HB0.out, RP.out⟩⟩
  case round =>
    obtain ⟨k, rfl, hk, HN, HW⟩ := hrel
    by_cases hlt : k < ps.length
    · obtain ⟨p, hp⟩ : ∃ p, ps[k]? = some p := ⟨_, List.getElem?_eq_getElem hlt⟩
      obtain ⟨c, d⟩ := p
      obtain ⟨b1, f1, rfl, hb1, q1⟩ := (HA.out.below HW.out.1).at (by omega)
      obtain ⟨c0, c1⟩ := q1 k _ hp
      have HM := Lib.hid hp
      have hbP := (Below.refl wr.heap.size wr).alloc (Nat.le_refl _) (.cells #[.int .i64 c, .int .i64 d] 32)
      have HW2 := Lib.hid (And.intro (HW.out.1.trans (hbP.mono HW.out.1.size)) (HW.out.2.below hbP HW.out.2.lt))
      have r0 := HW2.out.2.cell (i := 0) (v := .int .i64 a) (by rfl)
      have r1 := HW2.out.2.cell (i := 1) (v := .int .i64 b) (by rfl)
      dsimp only at c0 c1
      have HSN : Hid ((a, b) ≠ (c, d) → (a, b) ∉ ps.take (k + 1)) := Lib.hid (by
        intro h
        rw [List.take_add_one, hp]
        simp only [Option.toList_some, List.mem_append, List.mem_singleton, not_or]
        exact ⟨HN.out, h⟩)
      clear hp hbP q1 hb1
      by_cases h1 : c = a
      · subst h1
        by_cases h2 : d = b
        · subst h2
          have HD : Hid (decide ((c, d) ∈ ps) = true) := Lib.hid (decide_eq_true (List.mem_of_getElem? HM.out))
          go_wp2
          go_ret
          exact ⟨by rw [HD.out]; rfl, HW2.out.1⟩
        · have HNX := Lib.hid (HSN.out (fun e => h2 (Prod.mk.inj e).2.symm))
          go_wp2
          go_roundw
          case rel => exact ⟨k + 1, by go_num, by omega, HNX, HW2⟩
          case measure => simp only [intOf]; omega
      · have HNX := Lib.hid (HSN.out (fun e => h1 (Prod.mk.inj e).1.symm))
        go_wp2
        go_roundw
        case rel => exact ⟨k + 1, by go_num, by omega, HNX, HW2⟩
        case measure => simp only [intOf]; omega
    · obtain rfl : k = ps.length := by omega
      have HD : Hid (decide ((a, b) ∈ ps) = false) := Lib.hid (decide_eq_false (by have := HN.out; rwa [List.take_length] at this))
      go_wp2
      go_ret
      exact ⟨by rw [HD.out]; rfl, HW.out.1⟩
set_option maxRecDepth 100000 in
set_option maxHeartbeats 4000000 in
theorem l5Sees_any (ss : List Sc) (hv : Valid ss) (hf : FitsScopes ss) (oa : Option Addr) (cap : Nat) (s : Nat) (hs : s < ss.length) {i j : Nat} {x : It} (hq : (i, j, x) ∈ placed 0 ss) (w : World) (hc : HoldsScopes w oa ss) :
    Calls Tryd.prog 68 #[.agg #[.slice oa ss.length cap], .int .i64 (s : Int), .agg #[.int .i64 (i : Int), .int .i64 (j : Int)]] w fun e w' => e = .returned (.bool (foundB ss s (i, j, x))) ∧ Below w.heap.size w w' := by
  have hb0 : Below w.heap.size w ((w.alloc (.cells #[.slice oa ss.length cap] 25)).alloc (.cells #[.int .i64 (i : Int), .int .i64 (j : Int)] 32)) := ((Below.refl _ _).alloc (Nat.le_refl _) _).alloc (by simp) _
  have RG := (Row.new w [.slice oa ss.length cap] 25).alloc (.cells #[.int .i64 (i : Int), .int .i64 (j : Int)] 32)
  have RP := Row.new (w.alloc (.cells #[.slice oa ss.length cap] 25)) [.int .i64 (i : Int), .int .i64 (j : Int)] 32
  rw [World.size_alloc] at RP
  have s0 := RG.cell (i := 0) (v := .slice oa ss.length cap) (by rfl)
  have s1 := RP.cell (i := 0) (v := .int .i64 (i : Int)) (by rfl)
  have s2 := RP.cell (i := 1) (v := .int .i64 (j : Int)) (by rfl)
  have HB0 := Lib.hid hb0.drew
  have HC := Lib.hid hc
  have HF := Lib.hid hf
  have HV := Lib.hid hv
  have HS := Lib.hid hs
  obtain ⟨sc, hsc, hjx⟩ := placed_at hq
  have HSC := Lib.hid (And.intro hsc hjx)
  clear hc hf hv hs hb0 RG RP hsc hjx hq
  go_enter Tryd.func68, Tryd.ntmps68
  go_upto_region 1 with (fail)
  refine wp_region_kept (S := fun w' => w'.cell? ⟨w.heap.size, 0, none⟩ = some (.slice oa ss.length cap) ∧ w'.cell? ⟨w.heap.size + 1, 0, none⟩ = some (.int .i64 (i : Int)) ∧ w'.cell? ⟨w.heap.size + 1, 1, none⟩ = some (.int .i64 (j : Int))) 20 (by kernel_rfl) ?_
  have hS0 := And.intro (cell_drew s0) (And.intro (cell_drew s1) (cell_drew s2))
  refine KeptAny.take (i := 0) (v := ?_) (by kernel_rfl) rfl rfl (by kernel_rfl) (by kernel_rfl) (by kernel_rfl) (fun _ _ _ h => h) (by rfl) (fun w' hw' => ?_) (fun _ => rfl) hS0 ?_
  rotate_left
  · (obtain ⟨g0, g1, g2⟩ := hw'; go_simp; try with_reducible rfl)
  refine KeptAny.take (i := 1) (v := ?_) (by kernel_rfl) rfl rfl (by kernel_rfl) (by kernel_rfl) (by kernel_rfl) (fun _ _ _ h => h) (by rfl) (fun w' hw' => ?_) (fun _ => rfl) hS0 ?_
  rotate_left
  · (obtain ⟨g0, g1, g2⟩ := hw'; go_simp; try with_reducible rfl)
  refine KeptAny.take (i := 2) (v := ?_) (by kernel_rfl) rfl rfl (by kernel_rfl) (by kernel_rfl) (by kernel_rfl) (fun _ _ _ h => h) (by rfl) (fun w' hw' => ?_) (fun _ => rfl) hS0 ?_
  rotate_left
  · (obtain ⟨g0, g1, g2⟩ := hw'; go_simp; try with_reducible rfl)
  refine KeptAny.take (i := 3) (v := ?_) (by kernel_rfl) rfl rfl (by kernel_rfl) (by kernel_rfl) (by kernel_rfl) (fun _ _ _ h => h) (by rfl) (fun w' hw' => ?_) (fun _ => rfl) hS0 ?_
  rotate_left
  · (obtain ⟨g0, g1, g2⟩ := hw'; go_simp; try with_reducible rfl)
  refine KeptAny.take (i := 7) (v := ?_) (by kernel_rfl) rfl rfl (by kernel_rfl) (by kernel_rfl) (by kernel_rfl) (fun _ _ _ h => h) (by rfl) (fun w' hw' => ?_) (fun _ => rfl) hS0 ?_
  rotate_left
  · (obtain ⟨g0, g1, g2⟩ := hw'; go_simp; try with_reducible rfl)
  have HS0 := Lib.hid hS0
  clear hS0 s0 s1 s2
  refine KeptAny.one (i := 4) (by kernel_rfl) rfl (by rfl) (fun K hK => ?_)
  go_simp
  refine ⟨trivial, ?_⟩
  refine ((callsIn_wide (n := 5)).2 (specAt_any ss HF.out oa cap i j sc x HSC.out.1 HSC.out.2 _ (HC.out.below HB0.out (Nat.le_refl _)))).mono ?_
  rintro e w3 ⟨rfl, hb3⟩
  have HB3 := Lib.hid (HB0.out.trans (hb3.mono HB0.out.size))
  have HS3 := Lib.hid (And.intro (cell_grow hb3 HS0.out.1) (And.intro (cell_grow hb3 HS0.out.2.1) (cell_grow hb3 HS0.out.2.2)))
  clear hb3
  refine hK.out _ _ HS3.out (fun _ => ?_)
  clear hK
  refine KeptAny.one (i := 5) (by kernel_rfl) rfl (by rfl) (fun K hK => ?_)
  go_simp
  refine hK.out _ _ HS3.out (fun _ => ?_)
  clear hK
  refine KeptAny.one (i := 6) (by kernel_rfl) rfl (by rfl) (fun K hK => ?_)
  go_simp
  refine ⟨trivial, ?_⟩
  refine ((callsIn_wide (n := 5)).2 (specLookUp3_any ss HV.out HF.out oa cap s HS.out x.name _ (HC.out.below HB3.out (Nat.le_refl _)))).mono ?_
  rintro e w4 ⟨u, rfl, hu, hb4⟩
  obtain ⟨ou, cu, rfl, hap⟩ := argPlaces_of_owns hu
  have HAP := Lib.hid hap
  have HB4 := Lib.hid (HB3.out.trans (hb4.mono HB3.out.size))
  have HS4 := Lib.hid (And.intro (cell_grow hb4 HS3.out.1) (And.intro (cell_grow hb4 HS3.out.2.1) (cell_grow hb4 HS3.out.2.2)))
  clear hu hb4 hap
  refine hK.out _ _ HS4.out (fun _ => ?_)
  clear hK
  refine KeptAny.one (i := 8) (by kernel_rfl) rfl (by rfl) (fun K hK => ?_)
  go_simp
  refine ⟨trivial, ?_⟩
  refine ((callsIn_wide (n := 5)).2 (l5In_any (lookP ss s x.name).places ou cu (i : Int) (j : Int) _ (Nat.le_trans (show (lookP ss s x.name).places.length ≤ 25 from lookF_length HV.out _ _) (by omega)) HAP.out)).mono ?_
  rintro e w5 ⟨rfl, hb5⟩
  have HB5 := Lib.hid (HB4.out.trans (hb5.mono HB4.out.size))
  have HS5 := Lib.hid (And.intro (cell_grow hb5 HS4.out.1) (And.intro (cell_grow hb5 HS4.out.2.1) (cell_grow hb5 HS4.out.2.2)))
  clear hb5
  refine hK.out _ _ HS5.out (fun _ => ?_)
  clear hK
  refine KeptAny.one (i := 9) (by kernel_rfl) rfl (by rfl) (fun K hK => ?_)
  go_simp
  refine hK.out _ _ HS5.out (fun _ => ?_)
  clear hK
  refine KeptAny.done (by kernel_rfl) ?_ _
  go_wp2
  go_ret
  exact ⟨rfl, HB5.out⟩
end Go.Proofs.YtjogfagjcpcihaaDoor
namespace Go.Proofs.YtjogfagjcpcihaaDoor
open Go Go.RowKit
def seenOk (ss : List Sc) (n : Int) : Prop := HasScope ss n
theorem filtL_short {ss : List Sc} (hv : Valid ss) (f : Nat × Nat × It → Bool) : (filtL f (placed 0 ss)).length ≤ 30 := by
  have h1 := filtL_length f (placed 0 ss)
  have h2 := placed_bound 0 ss 6 5 hv.count.2 hv.five
  omega
theorem decls_short {ss : List Sc} (hv : Valid ss) : (declsP ss).length ≤ 30 := by
  have h1 := List.length_filter_le (fun q : Nat × Nat × It => q.2.2.kind == 1) (placed 0 ss)
  have h2 := placed_bound 0 ss 6 5 hv.count.2 hv.five
  unfold declsP
  omega
theorem owns_block2 {w : World} {base n size b off len cap : Nat} {e : TypeId} {xs : List Value} (h : w.ownsRow base e size (.slice (some ⟨b, off, none⟩) len cap) n xs) : base ≤ b := by
  obtain ⟨_, h2 | ⟨g, c, cur, hv, hB, _⟩⟩ := h
  · have := h2.1
    simp at this
  · simp only [Value.slice.injEq, Option.some.injEq, Addr.mk.injEq] at hv
    omega
theorem owns_lt2 {w : World} {base n size b off len cap : Nat} {e : TypeId} {xs : List Value} (h : w.ownsRow base e size (.slice (some ⟨b, off, none⟩) len cap) n xs) : b < w.heap.size := by
  obtain ⟨_, h2 | ⟨g, c, cur, hv, hB, hh, _⟩⟩ := h
  · have := h2.1
    simp at this
  · simp only [Value.slice.injEq, Option.some.injEq, Addr.mk.injEq] at hv
    have := (Array.getElem?_eq_some_iff.1 hh).1
    omega
/-- One place appended, and where the row then lies. -/
theorem append_placeW {W : World} {base k : Nat} {v : Value} {xs : List Value} (hrow : W.ownsRow base 32 2 v k xs) (x y : Int) (hk : k < 1000000) (hbase : base ≤ W.heap.size) (ty : TypeId) :
    ∃ v' w', (Builtin.append_ #[46, 46] ty #[v, .slice (some ⟨W.heap.size, 0, none⟩) 1 1]).run Tryd.prog (W.alloc (.cells #[.int .i64 x, .int .i64 y] 32)) = .ok v' w' ∧ w'.ownsRow base 32 2 v' (k + 1) (xs ++ [.int .i64 x, .int .i64 y]) ∧ (W.alloc (.cells #[.int .i64 x, .int .i64 y] 32)).grownBy w' v.ownBlock ∧ (v'.ownBlock = v.ownBlock ∨ v'.ownBlock = some (W.heap.size + 1)) := by
  obtain ⟨i0, hi, hz0, hz1, hz2⟩ := info_parts infoPl
  obtain ⟨v', w', hrun, h2, h3, _, h5⟩ := run_append_own_at (P := Tryd.prog) (W.alloc (.cells #[.int .i64 x, .int .i64 y] 32)) base 46 ty 32 i0 (.agg #[.int .i64 0, .int .i64 0]) 2 16 Tryd.underlying46 hi hz0 hz1 hz2 rfl (by decide) v k xs (hrow.alloc _) ⟨W.heap.size, 0, none⟩ 1 1 [.int .i64 x, .int .i64 y] rfl (cells_new2 W _ _ _)
    (by intro u hu; simp only [List.mem_cons, List.mem_nil_iff, or_false] at hu; rcases hu with rfl | rfl <;> rfl) (by unfold maxLen; omega) (by omega) (by show base ≤ (W.alloc _).heap.size; simp; omega)
  rw [World.size_alloc] at h5
  exact ⟨v', w', hrun, h2, h3, h5⟩
theorem ArgPlaces.grown {W W' : World} {oa : Option Addr} {l : List (Int × Int)} {row : Option Nat} (h : ArgPlaces W oa l) (hg : W.grownBy W' row) (hne : ∀ g, row = some g → ∀ b off, oa = some ⟨b, off, none⟩ → g ≠ b) : ArgPlaces W' oa l := by
  rcases h with h | ⟨b, off, rfl, hlt, hp⟩
  · exact .inl h
  · have hbk := hg.block b hlt (fun e => hne b e.symm b off rfl rfl)
    refine .inr ⟨b, off, rfl, Nat.lt_of_lt_of_le hlt hg.size, fun i p hi => ?_⟩
    obtain ⟨c0, c1⟩ := hp i p hi
    exact ⟨(World.cell?_of_block (a := ⟨b, off + i * 2, none⟩) hbk).trans c0, (World.cell?_of_block (a := ⟨b, off + i * 2 + 1, none⟩) hbk).trans c1⟩
/-- A list that lies apart from a row of one's own. -/
structure Aside (W : World) (v : Value) (ol : Option Addr) (l : List (Int × Int)) : Prop where
  args : ArgPlaces W ol l
  ne : ∀ g, v.ownBlock = some g → ∀ b off, ol = some ⟨b, off, none⟩ → g ≠ b
  lt : ∀ b off, ol = some ⟨b, off, none⟩ → b < W.heap.size
theorem Aside.below {W W' : World} {v : Value} {ol : Option Addr} {l : List (Int × Int)} (h : Aside W v ol l) (hb : Below W.heap.size W W') : Aside W' v ol l :=
  ⟨h.args.below hb, h.ne, fun b off e => Nat.lt_of_lt_of_le (h.lt b off e) hb.size⟩
theorem Aside.grown {W W' : World} {v v' : Value} {ol : Option Addr} {l : List (Int × Int)} {x y : Int} (h : Aside W v ol l) (hg : (W.alloc (.cells #[.int .i64 x, .int .i64 y] 32)).grownBy W' v.ownBlock) (hw : v'.ownBlock = v.ownBlock ∨ v'.ownBlock = some (W.heap.size + 1)) : Aside W' v' ol l := by
  have h1 := h.below ((Below.refl _ _).alloc (Nat.le_refl _) (.cells #[.int .i64 x, .int .i64 y] 32))
  refine ⟨h1.args.grown hg h1.ne, fun g hgo b off e => ?_, fun b off e => Nat.lt_of_lt_of_le (h1.lt b off e) hg.size⟩
  rcases hw with hw | hw
  · exact h.ne g (hw ▸ hgo) b off e
  · have := h.lt b off e
    rw [hw] at hgo
    simp only [Option.some.injEq] at hgo
    omega
set_option maxRecDepth 100000 in
set_option maxHeartbeats 4000000 in
theorem specSeenFrom_any (ss : List Sc) (hf : FitsScopes ss) (oa : Option Addr) (cap : Nat) (n : Int) (w : World) (hc : HoldsScopes w oa ss) :
    Calls Tryd.prog 24 #[.agg #[.slice oa ss.length cap], .int .i64 n] w (PlGot2 (HasScope ss n) (filtL (seesB ss n.toNat) (placed 0 ss)) w) := by
  have hb0 := ((Below.refl w.heap.size w).alloc (Nat.le_refl _) (.cells #[.slice oa ss.length cap] 25)).alloc (by simp) (.cells #[] 32)
  have hR0 := (Row.new w [.slice oa ss.length cap] 25).alloc (.cells #[] 32)
  have hown0 : ((w.alloc (.cells #[.slice oa ss.length cap] 25)).alloc (.cells #[] 32)).ownsRow w.heap.size 32 2 (.slice (some ⟨w.heap.size + 1, 0, none⟩) 0 0) 0 [] := by
    have h0 := World.ownsRow_made (base := w.heap.size) (e := 32) (size := 2) (w.alloc (.cells #[.slice oa ss.length cap] 25)) #[] 0 (by simp) (by unfold maxLen; omega) rfl
    rw [World.size_alloc] at h0
    exact h0
  have HP0 : Hid (PlsAt w ((w.alloc (.cells #[.slice oa ss.length cap] 25)).alloc (.cells #[] 32)) oa cap ss.length (.slice (some ⟨w.heap.size + 1, 0, none⟩) 0 0) []) := Lib.hid ⟨hR0, hown0, hb0⟩
  have C := Lib.hid (specScope_any ss hf oa cap n _ (hc.below hb0 (Nat.le_refl _)))
  have HC := Lib.hid hc
  have HF := Lib.hid hf
  have g00 := hR0.cell (i := 0) (by rfl)
  clear hf hc hb0 hR0 hown0
  go_enter Tryd.func24, Tryd.ntmps24
  go_wp2_with fail
  refine C.out.mono ?_
  rintro e w1 ⟨b, rfl, hv, hb⟩
  have HP1 := Lib.hid (HP0.out.step hb)
  have HPS : Hid (w.heap.size + 1 + 1 ≤ w1.heap.size) := Lib.hid (by have := hb.size; simp at this; omega)
  have c1 := HP1.out.box.cell (i := 0) (by rfl)
  have HV := Lib.hid hv
  clear hb hv g00
  cases b
  · have HN : Hid (¬ HasScope ss n) := Lib.hid (fun h => by have := HV.out.2 h; cases this)
    go_wp2
    go_ret2
    exact .inl ⟨HN.out, _, rfl, HP1.out.below⟩
  · have HH := Lib.hid (HV.out.1 rfl)
    obtain ⟨s, rfl⟩ : ∃ s : Nat, n = (s : Int) := ⟨n.toNat, by have := HH.out.2.1; omega⟩
    have HSL : Hid (s < ss.length) := Lib.hid (by have := HH.out.2.2; omega)
    have hdl := decls_short HH.out.1
    have HFD := Lib.hid (filtL_decls (sees_kind (ss := ss) (s := s)) ss)
    go_wp2_with fail
    refine (l1Places_any ss HH.out.1.count.2 HH.out.1.five oa cap 1 _ (HC.out.below HP1.out.below (Nat.le_refl _))).mono ?_
    rintro e w2 ⟨vl, rfl, hvl, hb2⟩
    obtain ⟨ol, cl, rfl, hap⟩ := argPlaces_of_owns hvl
    have HAP : Hid (Aside w2 (.slice (some ⟨w.heap.size + 1, 0, none⟩) 0 0) ol (plsP ss 1)) := Lib.hid ⟨hap, by
      rintro g hg b off rfl
      have h1 := owns_block2 hvl
      have h2 := HP1.out.row.1
      have h3 := HPS.out
      simp only [Value.ownBlock, Option.some.injEq] at hg
      omega, by
      rintro b off rfl
      rcases hap with h0 | ⟨b', off', e, hlt, _⟩
      · exact owns_lt2 hvl
      · cases e; exact hlt⟩
    have HP2 := Lib.hid (HP1.out.step hb2)
    have HNL : Hid ((plsP ss 1).length = (declsP ss).length) := Lib.hid (by rw [declsP_map, List.length_map])
    have hpl : (plsP ss 1).length ≤ 30 := by rw [HNL.out]; exact hdl
    clear hvl hap hb2 c1
    go_wp2
    go_loopw [6, 18] (fun v i wr => ∃ k : Nat, i = .int .i64 k ∧ k ≤ (plsP ss 1).length ∧ Hid (PlsAt w wr oa cap ss.length v (filtL (seesB ss s) ((declsP ss).take k)) ∧ Aside wr v ol (plsP ss 1))) (fun _ i _ => (plsP ss 1).length - (intOf i).toNat)
    case atStart => exact ⟨0, rfl, Nat.zero_le _, Lib.hid ⟨HP2.out, HAP.out⟩⟩
    case round =>
      obtain ⟨k, rfl, hk, hP⟩ := hrel
      by_cases hlt : k < (plsP ss 1).length
      · obtain ⟨q, hq⟩ : ∃ q, (declsP ss)[k]? = some q := ⟨_, List.getElem?_eq_getElem (by have := HNL.out; omega)⟩
        obtain ⟨i, j, x⟩ := q
        have hqI : (plsP ss 1)[k]? = some ((i : Int), (j : Int)) := by rw [declsP_map, List.getElem?_map, hq]; rfl
        obtain ⟨hpl2, hkd⟩ := decl_kind (List.mem_of_getElem? hq)
        obtain ⟨b1, f1, rfl, hb1, q1⟩ := hP.out.2.args.at (by omega)
        obtain ⟨c0, c1⟩ := q1 k _ hqI
        have hbP := (Below.refl wr.heap.size wr).alloc (Nat.le_refl _) (.cells #[.int .i64 (i : Int), .int .i64 (j : Int)] 32)
        have HP3 := Lib.hid (hP.out.1.step hbP)
        have HB3 := Lib.hid (hP.out.2.below hbP)
        have RP := Lib.hid (Row.new wr [.int .i64 (i : Int), .int .i64 (j : Int)] 32)
        have HST := Lib.hid (filtL_snoc (seesB ss s) ((declsP ss).take k) (i, j, x))
        have HTK : Hid ((declsP ss).take (k + 1) = (declsP ss).take k ++ [(i, j, x)]) := Lib.hid (by rw [List.take_add_one, hq]; rfl)
        have HSB : Hid (seesB ss s (i, j, x) = foundB ss s (i, j, x)) := Lib.hid (by
          unfold seesB
          dsimp only at hkd
          rw [hkd]
          rfl)
        have g3 := HP3.out.box.cell (i := 0) (by rfl)
        have hfl : (filtL (seesB ss s) ((declsP ss).take k)).length ≤ 30 := by
          have h1 := filtL_length (seesB ss s) ((declsP ss).take k)
          rw [List.length_take] at h1
          omega
        have C3 := Lib.hid (l5Sees_any ss HH.out.1 HF.out oa cap s HSL.out hpl2 _ (HC.out.below HP3.out.below (Nat.le_refl _)))
        clear hq hqI hpl2 hkd q1 hbP hb1
        dsimp only at c0 c1
        go_wp2_with fail
        refine C3.out.mono ?_
        rintro e w4 ⟨rfl, hb4⟩
        have HP4 := Lib.hid (HP3.out.step hb4)
        have HB4 := Lib.hid (HB3.out.below hb4)
        have RP4 := Lib.hid (RP.out.below hb4 RP.out.lt)
        have p0 := RP4.out.cell (i := 0) (v := .int .i64 (i : Int)) (by rfl)
        have p1 := RP4.out.cell (i := 1) (v := .int .i64 (j : Int)) (by rfl)
        clear hb4 g3 c0 c1
        cases hfd : foundB ss s (i, j, x)
        · have HE : Hid (filtL (seesB ss s) ((declsP ss).take (k + 1)) = filtL (seesB ss s) ((declsP ss).take k)) := Lib.hid (by rw [HTK.out, HST.out, HSB.out, hfd]; simp)
          clear hfd
          go_wp2
          go_roundw
          case rel => exact ⟨k + 1, by go_num, by omega, Lib.hid ⟨by rw [HE.out]; exact HP4.out, HB4.out⟩⟩
          case measure => simp only [intOf]; omega
        · have HE : Hid (filtL (seesB ss s) ((declsP ss).take (k + 1)) = filtL (seesB ss s) ((declsP ss).take k) ++ [((i : Int), (j : Int))]) := Lib.hid (by rw [HTK.out, HST.out, HSB.out, hfd]; rfl)
          generalize hpe : filtL (seesB ss s) ((declsP ss).take k) = pre at hfl
          rw [hpe] at HP4 HE
          have hbs4 := HP4.out.below.size
          obtain ⟨v', w', hrun, hown', hgrow, hwh⟩ := append_placeW HP4.out.row (i : Int) (j : Int) (by omega) hbs4 46
          have HRUN := Lib.hid hrun
          have HP5 : Hid (PlsAt w w' _ cap ss.length v' (filtL (seesB ss s) ((declsP ss).take (k + 1))) ∧ Aside w' v' _ (plsP ss 1)) := Lib.hid ⟨{
            box := (HP4.out.box.alloc (.cells #[.int .i64 (i : Int), .int .i64 (j : Int)] 32)).grown hgrow (ownsRow_ne2 HP4.out.box (by decide) HP4.out.row)
            row := by rw [HE.out, List.length_append, placeCells_snoc]; exact hown'
            below := HP4.out.below.trans (below_append2 HP4.out.row hgrow (Nat.le_refl w.heap.size) hbs4) }, HB4.out.grown hgrow hwh⟩
          clear hpe hfd hown' hgrow hrun hwh
          go_wp2_with (at_builtin; refine wpList_append_run rfl _ _ 46 rfl HRUN.out ?_)
          go_wp2
          go_roundw
          case rel => exact ⟨k + 1, by go_num, by omega, HP5⟩
          case measure => simp only [intOf]; omega
      · obtain rfl : k = (plsP ss 1).length := by omega
        have HE : Hid (filtL (seesB ss s) ((declsP ss).take (plsP ss 1).length) = filtL (seesB ss s) (placed 0 ss)) := Lib.hid (by rw [HNL.out, List.take_length, HFD.out])
        go_wp2
        go_ret2
        exact .inr ⟨HH.out, _, rfl, by have := hP.out.1.row; rw [HE.out] at this; rw [Int.toNat_natCast]; exact this, hP.out.1.below⟩
end Go.Proofs.YtjogfagjcpcihaaDoor
namespace Go.Proofs.YtjogfagjcpcihaaDoor
open Go Go.RowKit
/-- The index of an item behind a removal, and its place. -/
def aftN (a b i j : Nat) : Nat := if i = a ∧ b < j then j - 1 else j
def aftI (a b : Int) (p : Int × Int) : Int × Int := if p.1 = a ∧ b < p.2 then (p.1, p.2 - 1) else p
theorem aftI_nat (a b i j : Nat) : aftI (a : Int) (b : Int) ((i : Int), (j : Int)) = ((i : Int), (aftN a b i j : Int)) := by
  unfold aftI aftN
  by_cases h : i = a ∧ b < j
  · rw [if_pos ⟨by have := h.1; dsimp only; omega, by have := h.2; dsimp only; omega⟩, if_pos h]
    dsimp only
    rw [show ((j : Int) - 1) = ((j - 1 : Nat) : Int) by omega]
  · rw [if_neg (fun hh => h ⟨by have := hh.1; dsimp only at this; omega, by have := hh.2; dsimp only at this; omega⟩), if_neg h]
/-- Every other item is there. -/
theorem placed_rmv {ss : List Sc} {a b i j : Nat} {x : It} (h : (i, j, x) ∈ placed 0 ss) (hne : ¬ (i = a ∧ j = b)) : (i, aftN a b i j, x) ∈ placed 0 (rmvP ss a b) := by
  obtain ⟨s, h1, h2⟩ := placed_at h
  dsimp only at h1 h2
  by_cases hi : i = a
  · subst hi
    refine placed_of (rmvP_same h1) ?_
    unfold rmvSc aftN
    dsimp only
    rw [List.getElem?_eraseIdx]
    by_cases hb : b < j
    · have e : (if i = i ∧ b < j then j - 1 else j) = j - 1 := if_pos ⟨rfl, hb⟩
      rw [e, if_neg (by omega), show j - 1 + 1 = j by omega]
      exact h2
    · have e : (if i = i ∧ b < j then j - 1 else j) = j := if_neg (fun h => hb h.2)
      have hj : j ≠ b := fun e => hne ⟨rfl, e⟩
      rw [e, if_pos (by omega)]
      exact h2
  · refine placed_of (s := s) ?_ ?_
    · rw [rmvP_other hi]; exact h1
    · unfold aftN
      rw [if_neg (fun h => hi h.1)]
      exact h2
/-- Whether an item means the same when the item b of the scope a is removed. -/
def sameB (ss : List Sc) (a b : Nat) (q : Nat × Nat × It) : Bool :=
  !decide (((a : Int), (b : Int)) ∈ meanIt ss q) && decide ((meanIt ss q).map (aftI (a : Int) (b : Int)) = meanIt (rmvP ss a b) (q.1, aftN a b q.1 q.2.1, q.2.2))
def chgB (ss : List Sc) (a b : Nat) (q : Nat × Nat × It) : Bool := !(decide (q.1 = a ∧ q.2.1 = b)) && !sameB ss a b q
/-- The places of the items that mean something else then. -/
def chgP (ss : List Sc) (a b : Nat) : List (Int × Int) := filtL (chgB ss a b) (placed 0 ss)
end Go.Proofs.YtjogfagjcpcihaaDoor
namespace Go.Proofs.YtjogfagjcpcihaaDoor
open Go Go.RowKit
def aftB (a b c d : Int) : Int := if a = c ∧ d < b then b - 1 else b
/-- Where a place stands behind a removal. -/
def paV (a b c d : Int) : Int × Int × Bool := if a = c ∧ b = d then (0, 0, false) else (a, aftB a b c d, true)
def PaGot (a b c d : Int) (w : World) (e : Ending) (w' : World) : Prop := ∃ x y ok, e = .returned (.tuple #[.agg #[.int .i64 x, .int .i64 y], .bool ok]) ∧ (x, y, ok) = paV a b c d ∧ Below w.heap.size w w'
end Go.Proofs.YtjogfagjcpcihaaDoor
namespace Go.Proofs.YtjogfagjcpcihaaDoor
open Go Go.RowKit
/-- All items from before are there. -/
theorem placed_add {ss : List Sc} {a i j : Nat} {x y : It} (h : (i, j, y) ∈ placed 0 ss) : (i, j, y) ∈ placed 0 (addP ss a x) := by
  obtain ⟨s, h1, h2⟩ := placed_at h
  dsimp only at h1 h2
  by_cases hi : i = a
  · subst hi
    refine placed_of (addP_same h1) ?_
    show (s.items ++ [x])[j]? = some y
    rw [List.getElem?_append_left (List.getElem?_eq_some_iff.1 h2).1]
    exact h2
  · exact placed_of (by rw [addP_other hi]; exact h1) h2
/-- The new item is there. -/
theorem placed_new {ss : List Sc} {a : Nat} {x : It} {s : Sc} (h : ss[a]? = some s) : (a, s.items.length, x) ∈ placed 0 (addP ss a x) :=
  placed_of (addP_same h) (by show (s.items ++ [x])[s.items.length]? = some x; simp)
/-- Whether an item that means l means the same at the place p of another graph, its declarations standing where st tells. -/
def sameG (tt : List Sc) (st : Int × Int → Option (Int × Int)) (l : List (Int × Int)) (p : Int × Int) : Bool :=
  decide ((∀ d ∈ l, (st d).isSome = true) ∧ l.filterMap st = meanAt tt p.1 p.2)
/-- Whether an item is there in another graph and means something else. -/
def chgB1 (ss tt : List Sc) (st : Int × Int → Option (Int × Int)) (q : Nat × Nat × It) : Bool :=
  match st (plOf q) with
  | none => false
  | some p => !sameG tt st (meanIt ss q) p
/-- The places of the items that are there in another graph and mean something else. -/
def chgG (ss tt : List Sc) (st : Int × Int → Option (Int × Int)) : List (Int × Int) := filtL (chgB1 ss tt st) (placed 0 ss)
/-- Where an item stands when one is removed. -/
def stRmv (a b : Int) (p : Int × Int) : Option (Int × Int) := if p.1 = a ∧ p.2 = b then none else some (aftI a b p)
/-- Where an item stands when one is moved to the place e. -/
def stMov (a b : Int) (e : Int × Int) (p : Int × Int) : Option (Int × Int) := if p.1 = a ∧ p.2 = b then some e else some (aftI a b p)
end Go.Proofs.YtjogfagjcpcihaaDoor
namespace Go.Proofs.YtjogfagjcpcihaaDoor
open Go Go.RowKit
theorem stRmv_some {a b : Int} {d : Int × Int} : (stRmv a b d).isSome = true ↔ ¬ d = (a, b) := by
  unfold stRmv
  by_cases h : d.1 = a ∧ d.2 = b
  · rw [if_pos h]
    simp only [Option.isSome_none, Bool.false_eq_true, false_iff, Decidable.not_not]
    exact Prod.ext h.1 h.2
  · rw [if_neg h]
    simp only [Option.isSome_some, true_iff]
    intro e
    exact h (by rw [e]; exact ⟨rfl, rfl⟩)
theorem stRmv_get {a b : Int} {d : Int × Int} (h : ¬ d = (a, b)) : stRmv a b d = some (aftI a b d) := by
  unfold stRmv
  rw [if_neg (fun e => h (Prod.ext e.1 e.2))]
theorem stRmv_map {a b : Int} : ∀ {l : List (Int × Int)}, (a, b) ∉ l → l.filterMap (stRmv a b) = l.map (aftI a b)
  | [], _ => rfl
  | d :: r, h => by
    have h1 : ¬ d = (a, b) := fun e => h (by rw [e]; exact List.mem_cons_self)
    rw [List.filterMap_cons, stRmv_get h1, stRmv_map (fun e => h (List.mem_cons_of_mem _ e))]
    rfl
theorem stMov_map {a b : Int} {e : Int × Int} (l : List (Int × Int)) : (∀ d ∈ l, (stMov a b e d).isSome = true) ∧ l.filterMap (stMov a b e) = l.map (fun d => if d.1 = a ∧ d.2 = b then e else aftI a b d) := by
  have h1 : ∀ d, stMov a b e d = some (if d.1 = a ∧ d.2 = b then e else aftI a b d) := fun d => by unfold stMov; split <;> rfl
  refine ⟨fun d _ => by rw [h1]; rfl, ?_⟩
  rw [show stMov a b e = some ∘ (fun d => if d.1 = a ∧ d.2 = b then e else aftI a b d) from funext h1, List.filterMap_eq_map]
theorem sameG_rmv {ss : List Sc} {a b : Nat} {q : Nat × Nat × It} (hq : q ∈ placed 0 ss) (hne : ¬ (q.1 = a ∧ q.2.1 = b)) :
    sameG (rmvP ss a b) (stRmv (a : Int) (b : Int)) (meanIt ss q) (aftI (a : Int) (b : Int) (plOf q)) = sameB ss a b q := by
  obtain ⟨i, j, x⟩ := q
  have hm := meanAt_of (placed_rmv hq hne)
  unfold sameG sameB
  rw [show aftI (a : Int) (b : Int) (plOf (i, j, x)) = ((i : Int), (aftN a b i j : Int)) from aftI_nat a b i j]
  dsimp only
  rw [hm]
  by_cases h : ((a : Int), (b : Int)) ∈ meanIt ss (i, j, x)
  · rw [decide_eq_true h]
    simp only [Bool.not_true, Bool.false_and, decide_eq_false_iff_not]
    rintro ⟨h1, _⟩
    exact stRmv_some.1 (h1 _ h) rfl
  · rw [decide_eq_false h, stRmv_map h]
    simp only [Bool.not_false, Bool.true_and, decide_eq_decide]
    exact ⟨fun k => k.2, fun k => ⟨fun d hd => stRmv_some.2 (fun e => h (by rw [← e]; exact hd)), k⟩⟩
theorem filtL_congr {f g : Nat × Nat × It → Bool} {l : List (Nat × Nat × It)} (h : ∀ q ∈ l, f q = g q) : filtL f l = filtL g l := by
  unfold filtL
  rw [List.filter_congr h]
theorem chgG_rmv {ss : List Sc} {a b : Nat} : chgG ss (rmvP ss a b) (stRmv (a : Int) (b : Int)) = chgP ss a b := by
  refine filtL_congr fun q hq => ?_
  unfold chgB1 chgB
  by_cases h : q.1 = a ∧ q.2.1 = b
  · have h1 : stRmv (a : Int) (b : Int) (plOf q) = none := by
      unfold stRmv plOf
      rw [if_pos ⟨by rw [h.1], by rw [h.2]⟩]
    rw [h1, decide_eq_true h]
    rfl
  · have h1 : stRmv (a : Int) (b : Int) (plOf q) = some (aftI (a : Int) (b : Int) (plOf q)) := stRmv_get (fun e => h (by
      have e1 := congrArg Prod.fst e
      have e2 := congrArg Prod.snd e
      unfold plOf at e1 e2
      dsimp only at e1 e2
      omega))
    rw [h1, decide_eq_false h]
    dsimp only
    rw [sameG_rmv hq h]
    rfl
theorem sameG_add {tt : List Sc} {l : List (Int × Int)} {p : Int × Int} : sameG tt some l p = decide (l = meanAt tt p.1 p.2) := by
  unfold sameG
  rw [show l.filterMap some = l from List.filterMap_some]
  rw [decide_eq_decide]
  exact ⟨fun h => h.2, fun h => ⟨fun _ _ => rfl, h⟩⟩
/-- The places of the items that mean something else in another graph, where they have the same places. -/
def chgA (ss tt : List Sc) : List (Int × Int) := filtL (fun q => !decide (meanIt ss q = meanAt tt (q.1 : Int) (q.2.1 : Int))) (placed 0 ss)
theorem chgG_add {ss tt : List Sc} : chgG ss tt some = chgA ss tt := by
  refine filtL_congr fun q _ => ?_
  unfold chgB1
  dsimp only
  rw [sameG_add]
  rfl
theorem chgG_length (ss tt : List Sc) (st : Int × Int → Option (Int × Int)) : (chgG ss tt st).length ≤ (placed 0 ss).length := filtL_length _ _
theorem chgG_nil {ss tt : List Sc} {a b : Int} {e : Int × Int} : chgG ss tt (stMov a b e) = [] ↔ ∀ q ∈ placed 0 ss, (meanIt ss q).map (fun d => if d.1 = a ∧ d.2 = b then e else aftI a b d) = meanAt tt (if (plOf q).1 = a ∧ (plOf q).2 = b then e else aftI a b (plOf q)).1 (if (plOf q).1 = a ∧ (plOf q).2 = b then e else aftI a b (plOf q)).2 := by
  have key : ∀ q, chgB1 ss tt (stMov a b e) q = !decide ((meanIt ss q).map (fun d => if d.1 = a ∧ d.2 = b then e else aftI a b d) = meanAt tt (if (plOf q).1 = a ∧ (plOf q).2 = b then e else aftI a b (plOf q)).1 (if (plOf q).1 = a ∧ (plOf q).2 = b then e else aftI a b (plOf q)).2) := fun q => by
    unfold chgB1
    rw [show stMov a b e (plOf q) = some (if (plOf q).1 = a ∧ (plOf q).2 = b then e else aftI a b (plOf q)) from by unfold stMov; split <;> rfl]
    dsimp only
    unfold sameG
    have h2 := stMov_map (a := a) (b := b) (e := e) (meanIt ss q)
    rw [h2.2]
    congr 1
    rw [decide_eq_decide]
    exact ⟨fun k => k.2, fun k => ⟨h2.1, k⟩⟩
  unfold chgG filtL
  rw [List.map_eq_nil_iff, List.filter_eq_nil_iff]
  refine forall_congr' fun q => forall_congr' fun _ => ?_
  rw [key]
  simp
end Go.Proofs.YtjogfagjcpcihaaDoor
namespace Go.Proofs.YtjogfagjcpcihaaDoor
open Go Go.RowKit Go.Maps
end Go.Proofs.YtjogfagjcpcihaaDoor
namespace Go.Proofs.YtjogfagjcpcihaaDoor
open Go Go.RowKit Go.Maps
/-- What a function tells of where a place stands. -/
def StTold (st : Int × Int → Option (Int × Int)) (d : Int × Int) (x y : Int) (ok : Bool) : Prop := (ok = true ∧ st d = some (x, y)) ∨ (ok = false ∧ st d = none)
/-- A function value that tells where places stand, in every world behind w. -/
def StandsOk (w : World) (u : Value) (st : Int × Int → Option (Int × Int)) : Prop := ∃ (f : Nat) (lb : Array Value), u = .func (.func f) #[] lb ∧ (∀ args W, (callFunc f args).run Tryd.prog W = .ok (.enter f args) W) ∧
  ∀ (i j : Nat) (W : World), i < 1000 → j < 1000 → Below w.heap.size w W → Calls Tryd.prog f (#[.agg #[.int .i64 (i : Int), .int .i64 (j : Int)]] ++ lb) W fun e W' => ∃ x y ok, e = .returned (.tuple #[.agg #[.int .i64 x, .int .i64 y], .bool ok]) ∧ StTold st ((i : Int), (j : Int)) x y ok ∧ Below W.heap.size W W'
theorem StandsOk.below {w w' : World} {u : Value} {st : Int × Int → Option (Int × Int)} (h : StandsOk w u st) (hb : Below w.heap.size w w') : StandsOk w' u st := by
  obtain ⟨f, lb, h1, h2, h3⟩ := h
  exact ⟨f, lb, h1, h2, fun i j W hi hj hW => h3 i j W hi hj (hb.trans (hW.mono hb.size))⟩
/-- A resolution of a graph lies in memory. -/
def ResIs (w : World) (R : Nat) (ss : List Sc) : Prop := ∃ (B T M1 M2 MR : Nat) (v : Value) (ds : List Nd) (l : List Ent), ResW w B R T M1 M2 MR v ds ss l
theorem ResIs.below {w w' : World} {R : Nat} {ss : List Sc} (h : ResIs w R ss) (hb : Below w.heap.size w w') : ResIs w' R ss := by
  obtain ⟨B, T, M1, M2, MR, v, ds, l, h⟩ := h
  exact ⟨B, T, M1, M2, MR, v, ds, l, h.below hb⟩
/-- What stands of the first k of a list. -/
def stUp (st : Int × Int → Option (Int × Int)) (l : List (Int × Int)) (k : Nat) : List (Int × Int) := (l.take k).filterMap st
theorem stUp_length (st : Int × Int → Option (Int × Int)) (l : List (Int × Int)) (k : Nat) : (stUp st l k).length ≤ l.length := Nat.le_trans (List.length_filterMap_le _ _) (List.length_take_le' _ _)
theorem stUp_snoc {st : Int × Int → Option (Int × Int)} {l : List (Int × Int)} {k : Nat} {d p : Int × Int} (h : l[k]? = some d) (hs : st d = some p) : stUp st l (k + 1) = stUp st l k ++ [p] := by
  unfold stUp
  rw [List.take_add_one, h, List.filterMap_append]
  simp [hs]
theorem cell4 {w1 W : World} {p0 p1 p2 : Addr} {v0 v1 v2 : Value} (c0 : w1.cell? p0 = some v0) (c1 : w1.cell? p1 = some v1) (c2 : w1.cell? p2 = some v2) (hb : Below w1.heap.size w1 W) :
    W.cell? p0 = some v0 ∧ W.cell? p1 = some v1 ∧ W.cell? p2 = some v2 ∧ Below w1.heap.size w1 W := ⟨cell_grow hb c0, cell_grow hb c1, cell_grow hb c2, hb⟩
end Go.Proofs.YtjogfagjcpcihaaDoor
