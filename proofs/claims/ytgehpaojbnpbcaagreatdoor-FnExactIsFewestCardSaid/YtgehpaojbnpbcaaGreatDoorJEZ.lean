/-
  The declarations that are seen from a scope, as plain data; the walks of the given l5In, l5Sees and SeenFrom. Condition: the argument's memory holds the graph. Where the items of a graph without an item stand; which items mean something else then, as plain data. Plain facts. The walks of the given l6After and PlaceAfter and of impl's PlaceAfter: where a place stands behind a removal. No conditions. The walk of impl's (*lookup).importsOf, where the targets of the scope's items are told. The walks of impl's (*lookup).imported and way.from, where the targets of the scope's items are told. The walk of impl's (*lookup).find, where the targets of the items of the scopes on the way are told. The walks of impl's (*lookup).meantBy, (*tree).moduleAlone and (*lookup).target: what an import brings in, by strong induction on its scope's number. The walk of impl's PlacesOf. Conditions: the argument's memory holds the graph; the package-level errors hold errors. The walks of impl's (*lookup).meaning, resolutionOf and (*resolution).state. Conditions: the argument's memory holds the graph; the package-level errors hold errors. The walks of ImportTarget, the given one's and impl's. Conditions: the argument's memory holds the graph; the package-level errors hold errors. The walks of impl's (*resolution).state, ResolveItem and StateOf. Conditions: the argument's memory holds the graph; the package-level errors hold errors. Where the items of a graph with an item more stand. What items mean something else between two graphs, as plain data. Plain facts. What items mean something else when one is removed, added or moved: the same lists told in two ways. Plain facts. The walks of impl's slices.Equal at places and of (*comparison).same: whether an item means the same before and after, where it is told where each declaration stands. Conditions: two resolutions lie in memory; the function that is asked answers as is told. The walk of impl's (*comparison).same: whether an item means the same before and after, where it is told where each declaration stands. Conditions: two resolutions lie in memory; the function that is asked answers as is told.
-/
import Derived.Test.YtgehpaojbnpbcaaGreatDoorJDZ
import Derived.Test.YtgehpaojbnpbcaaGreatDoorJCZ
import Derived.Maps.AppendAt
import Derived.Test.YtgehpaojbnpbcaaGreatDoorBaseZ
import Derived.Test.YtgehpaojbnpbcaaGreatDoorJBZ
import Derived.WalkMore
import Derived.BigQuiet
import Derived.Deep.RegionHeld3
import Derived.Test.YtgehpaojbnpbcaaGreatDoorJAZ
namespace Go.Proofs.YtgehpaojbnpbcaaGreatDoor
open Go Go.RowKit
def plOf (q : Nat × Nat × It) : Int × Int := ((q.1 : Int), (q.2.1 : Int))
/-- The places of those that pass a test. -/
def filtL (f : Nat × Nat × It → Bool) (l : List (Nat × Nat × It)) : List (Int × Int) := (l.filter f).map plOf
theorem filtL_snoc (f : Nat × Nat × It → Bool) (l : List (Nat × Nat × It)) (q : Nat × Nat × It) : filtL f (l ++ [q]) = filtL f l ++ if f q = true then [plOf q] else [] := by
  unfold filtL
  rw [List.filter_append, List.map_append]
  congr 1
  cases h : f q <;> simp [h]
theorem filtL_length (f : Nat × Nat × It → Bool) (l : List (Nat × Nat × It)) : (filtL f l).length ≤ l.length := by
  unfold filtL
  rw [List.length_map]
  exact List.length_filter_le _ _
end Go.Proofs.YtgehpaojbnpbcaaGreatDoor
namespace Go.Proofs.YtgehpaojbnpbcaaGreatDoor
open Go Go.RowKit
end Go.Proofs.YtgehpaojbnpbcaaGreatDoor
namespace Go.Proofs.YtgehpaojbnpbcaaGreatDoor
open Go Go.RowKit
theorem filtL_short {ss : List Sc} (hv : Valid ss) (f : Nat × Nat × It → Bool) : (filtL f (placed 0 ss)).length ≤ 30 := by
  have h1 := filtL_length f (placed 0 ss)
  have h2 := placed_bound 0 ss 6 5 hv.count.2 hv.five
  omega
/-- One place appended, and where the row then lies. -/
theorem append_placeW {W : World} {base k : Nat} {v : Value} {xs : List Value} (hrow : W.ownsRow base 59 2 v k xs) (x y : Int) (hk : k < 1000000) (hbase : base ≤ W.heap.size) (ty : TypeId) :
    ∃ v' w', (Builtin.append_ #[36, 36] ty #[v, .slice (some ⟨W.heap.size, 0, none⟩) 1 1]).run Tryz.prog (W.alloc (.cells #[.int .i64 x, .int .i64 y] 59)) = .ok v' w' ∧ w'.ownsRow base 59 2 v' (k + 1) (xs ++ [.int .i64 x, .int .i64 y]) ∧ (W.alloc (.cells #[.int .i64 x, .int .i64 y] 59)).grownBy w' v.ownBlock ∧ (v'.ownBlock = v.ownBlock ∨ v'.ownBlock = some (W.heap.size + 1)) := by
  obtain ⟨i0, hi, hz0, hz1, hz2⟩ := info_parts infoPl
  obtain ⟨v', w', hrun, h2, h3, _, h5⟩ := run_append_own_at (P := Tryz.prog) (W.alloc (.cells #[.int .i64 x, .int .i64 y] 59)) base 36 ty 59 i0 (.agg #[.int .i64 0, .int .i64 0]) 2 16 Tryz.underlying36 hi hz0 hz1 hz2 rfl (by decide) v k xs (hrow.alloc _) ⟨W.heap.size, 0, none⟩ 1 1 [.int .i64 x, .int .i64 y] rfl (cells_new2 W _ _ _)
    (by intro u hu; simp only [List.mem_cons, List.mem_nil_iff, or_false] at hu; rcases hu with rfl | rfl <;> rfl) (by unfold maxLen; omega) (by omega) (by show base ≤ (W.alloc _).heap.size; simp; omega)
  rw [World.size_alloc] at h5
  exact ⟨v', w', hrun, h2, h3, h5⟩
end Go.Proofs.YtgehpaojbnpbcaaGreatDoor
namespace Go.Proofs.YtgehpaojbnpbcaaGreatDoor
open Go Go.RowKit
end Go.Proofs.YtgehpaojbnpbcaaGreatDoor
namespace Go.Proofs.YtgehpaojbnpbcaaGreatDoor
open Go Go.RowKit
end Go.Proofs.YtgehpaojbnpbcaaGreatDoor
namespace Go.Proofs.YtgehpaojbnpbcaaGreatDoor
open Go Go.RowKit Go.Maps
attribute [local go_sem ↓] field_kind field_name field_scope
/-- What target answers at the items of a scope. -/
def TargetC (B L M T M1 M2 : Nat) (v : Value) (ds : List Nd) (ss : List Sc) (s : Nat) : Prop :=
  ∀ (j : Nat), IsItem ss (s, j) → ∀ W : World, LookW W B L M T M1 M2 v ds ss →
    Calls Tryz.prog 138 #[.pointer (some ⟨L, 0, none⟩), .agg #[.int .i64 (s : Int), .int .i64 (j : Int)]] W fun e w' => e = .returned (.int .i64 (tgt ss (s, j))) ∧ Left W w' B L M T M1 M2 v ds ss
/-- What a call leaves beside the lookup: a list of numbers of its own. -/
def NumsLeft (l : List Nat) (w : World) (B L M T M1 M2 : Nat) (v : Value) (ds : List Nd) (ss : List Sc) (e : Ending) (w' : World) : Prop :=
  ∃ u, e = .returned u ∧ w'.ownsRow w.heap.size 3 1 u l.length (numVals l) ∧ Left w w' B L M T M1 M2 v ds ss
theorem Memo.same {w w' : World} {M : Nat} {ss : List Sc} (h : Memo w M ss) (hb : w'.heap[M]? = w.heap[M]?) : Memo w' M ss := by
  obtain ⟨l, h1, h2, es, clock, hh, r⟩ := h
  exact ⟨l, h1, h2, es, clock, hb.trans hh, r⟩
/-- What turns blocks of the call's own alone. -/
theorem Left.far {w W W' : World} {B L M T M1 M2 : Nat} {v : Value} {ds : List Nd} {ss : List Sc} (hL : LookW w B L M T M1 M2 v ds ss) (h : Left w W B L M T M1 M2 v ds ss) (hb : Below w.heap.size W W') : Left w W' B L M T M1 M2 v ds ss :=
  have ht : Turns w W' M M := ⟨hb.os.trans h.turns.os, hb.tape.trans h.turns.tape, hb.output.trans h.turns.output, Nat.le_trans h.turns.size hb.size, fun g hg h1 h2 => (hb.block g hg).trans (h.turns.rest g hg h1 h2)⟩
  ⟨hL.turned ht (h.look.memo.same (hb.block M hL.memo.lt)), ht⟩
theorem ownsRow_left {W W' : World} {base n size B L M T M1 M2 : Nat} {v : Value} {ds : List Nd} {ss : List Sc} {e : TypeId} {u : Value} {xs : List Value} (h : W.ownsRow base e size u n xs) (hL : LookW W B L M T M1 M2 v ds ss) (ht : Left W W' B L M T M1 M2 v ds ss) : W'.ownsRow base e size u n xs := ownsRow_turned h ht.turns hL.memo
set_option maxRecDepth 100000 in
set_option maxHeartbeats 4000000 in
theorem importsOf_any {ss : List Sc} (hv : Valid ss) {w : World} {B L M T M1 M2 : Nat} {v : Value} {ds : List Nd} (hL : LookW w B L M T M1 M2 v ds ss) {s : Nat} {d : Nd} (hd : ds[s]? = some d) (hT : TargetC B L M T M1 M2 v ds ss s) :
    Calls Tryz.prog 137 #[.pointer (some ⟨L, 0, none⟩), .pointer (some ⟨d.blk, 0, none⟩)] w (NumsLeft (impP ss s) w B L M T M1 M2 v ds ss) := by
  have hs : s < ss.length := by have := (List.getElem?_eq_some_iff.1 hd).1; have := hL.tree.hold.len; omega
  obtain ⟨c, hsc⟩ : ∃ c, ss[s]? = some c := ⟨_, List.getElem?_eq_getElem hs⟩
  have hil := hv.five c (List.mem_of_getElem? hsc)
  obtain ⟨oi, ci, hdi, hci⟩ := hL.tree.hold.items s d c hd hsc
  have nk := hL.tree.tree.node s d hd
  have n2 := nk.2.cell (i := 2) (v := d.items) (by rfl)
  rw [hdi] at n2
  have HIE : Hid (impP ss s = impUp ss (impP ss) s c.items c.items.length) := Lib.hid (by rw [impP_eq hv.climbs]; unfold impF; rw [itemsP_of hsc])
  have HV := Lib.hid hv
  have HL0 := Lib.hid hL
  have HT := Lib.hid hT
  have HD := Lib.hid hd
  have HSC := Lib.hid hsc
  have HCI := Lib.hid hci
  clear hv hL hT hd hsc hci nk hdi
  go_enter Tryz.func137, Tryz.ntmps137
  go_wp2
  go_loopw [5, 14] (fun u i wr => ∃ k : Nat, i = .int .i64 k ∧ k ≤ c.items.length ∧ Hid (wr.ownsRow w.heap.size 3 1 u (impUp ss (impP ss) s c.items k).length (numVals (impUp ss (impP ss) s c.items k)) ∧ Left w wr B L M T M1 M2 v ds ss)) (fun _ i _ => c.items.length - (intOf i).toNat)
  case atStart => exact ⟨0, rfl, Nat.zero_le _, Lib.hid ⟨World.ownsRow_nil _ _ _ _, HL0.out.left⟩⟩
  case round =>
    obtain ⟨k, rfl, hk, hP⟩ := hrel
    by_cases hlt : k < c.items.length
    · obtain ⟨x, hx⟩ : ∃ x, c.items[k]? = some x := ⟨_, List.getElem?_eq_getElem hlt⟩
      obtain ⟨b2, o2, rfl, hb2, hcell2⟩ := HCI.out.at (by omega)
      obtain ⟨x0, x1, x2⟩ := hcell2 k x hx
      have HCK := Lib.hid (hP.out.2.turns.cellsM HL0.out.memo)
      have y0 := HCK.out.cell hb2 x0
      have y1 := HCK.out.cell hb2 x1
      have y2 := HCK.out.cell hb2 x2
      have hbi := (Below.refl wr.heap.size wr).alloc (Nat.le_refl _) (.cells #[.int .i64 x.kind, .string x.name, .int .i64 x.scope] 137)
      have HLI := Lib.hid (hP.out.2.step hbi)
      have HUI := Lib.hid (ownsRow_below hP.out.1 hbi)
      have m0 := ((HLI.out.look.tree.tree.node s d HD.out).2.cell (i := 0) (v := .int .i64 (s : Int)) (by rfl))
      have hul := impUp_length (ss := ss) s c.items k
      have HST := Lib.hid (impUp_snoc (ss := ss) (imps := impP ss) (s := s) hx)
      have HQI : Hid (IsItem ss (s, k)) := Lib.hid ⟨c, x, HSC.out, hx⟩
      have HTG := Lib.hid (tgt_of HSC.out hx)
      clear hx hcell2 x0 x1 x2 hbi
      by_cases hkd : x.kind = 3
      · have hq : (x.kind == 3) = true := by simpa using hkd
        have HKD := Lib.hid hkd
        have C := Lib.hid (HT.out k HQI.out _ HLI.out.look)
        clear hkd
        go_wp2_with fail
        refine C.out.mono ?_
        rintro e w3 ⟨rfl, hl3⟩
        have HU3 := Lib.hid (ownsRow_left HUI.out HLI.out.look hl3)
        have HL3 := Lib.hid (HLI.out.trans hl3)
        obtain ⟨ou, cu, rfl, hh3⟩ := holdsInts_of_owns HU3.out
        have HH3 := Lib.hid hh3
        have HNL : Hid ((natInts (impUp ss (impP ss) s c.items k)).length < 2 ^ 40) := Lib.hid (by rw [natInts_length]; omega)
        clear hl3 hh3 m0 y0 y1 y2
        rw [HTG.out]
        rcases target_ok HV.out s x.name with ht | ⟨m, ht, hm⟩
        · have HE : Hid (impUp ss (impP ss) s c.items (k + 1) = impUp ss (impP ss) s c.items k) := Lib.hid (by rw [HST.out, impStep_none ht])
          rw [ht]
          go_wp2
          go_roundw
          case rel => exact ⟨k + 1, by go_num, by omega, Lib.hid (by rw [HE.out]; exact ⟨HU3.out, HL3.out⟩)⟩
          case measure => simp only [intOf]; omega
        · rw [ht]
          go_wp2_with fail
          refine (contains_any (natInts (impUp ss (impP ss) s c.items k)) ou cu (m : Int) _ HNL.out HH3.out).mono ?_
          rintro e w5 ⟨rfl, hb5⟩
          have HL5 := Lib.hid (HL3.out.step hb5)
          have HU5 := Lib.hid (ownsRow_below HU3.out hb5)
          obtain ⟨q, hq2⟩ : ∃ q, decide ((m : Int) ∈ natInts (impUp ss (impP ss) s c.items k)) = q := ⟨_, rfl⟩
          rw [hq2]
          have HQ := Lib.hid hq2
          clear hb5 hq2
          cases q
          · have HNI : Hid (m ∉ impUp ss (impP ss) s c.items k) := Lib.hid (fun h => by have := HQ.out; simp [mem_natInts.2 h] at this)
            have HE : Hid (impUp ss (impP ss) s c.items (k + 1) = impUp ss (impP ss) s c.items k ++ [m]) := Lib.hid (by rw [HST.out, impStep_new HKD.out ht HNI.out])
            obtain ⟨i0, hi0, hz0, hz1, hz2⟩ := info_parts infoInt
            have hbs5 := HL5.out.turns.size
            go_wp2_with (at_builtin; refine wpList_append_own _ rfl _ _ 96 rfl w.heap.size 3 i0 (.int .i64 0) 1 8 Tryz.underlying96 hi0 hz0 hz1 hz2 rfl (by decide) _ _ _ rfl (HU5.out.alloc _) ⟨w5.heap.size, 0, none⟩ 1 1 [.int .i64 (m : Int)] rfl rfl ?c1 ?c2 ?c3 ?c4 ?c5 ?_)
            case c1 => exact cells_new _ _ _
            case c2 => intro u hu; simp only [List.mem_singleton] at hu; subst hu; rfl
            case c3 => unfold maxLen; omega
            case c4 => omega
            case c5 => simp only [World.size_alloc]; omega
            intro v' w6 hown' hgrow _
            have HL6 := Lib.hid (Left.far HL0.out HL5.out (below_append2 HU5.out hgrow (Nat.le_refl w.heap.size) hbs5))
            have HU6 := Lib.hid hown'
            clear hown' hgrow
            go_wp2
            go_roundw
            case rel => exact ⟨k + 1, by go_num, by omega, Lib.hid (by rw [HE.out, List.length_append, numVals_snoc]; exact ⟨HU6.out, HL6.out⟩)⟩
            case measure => simp only [intOf]; omega
          · have HNI : Hid (m ∈ impUp ss (impP ss) s c.items k) := Lib.hid (mem_natInts.1 (by have := HQ.out; simpa using this))
            have HE : Hid (impUp ss (impP ss) s c.items (k + 1) = impUp ss (impP ss) s c.items k) := Lib.hid (by rw [HST.out, impStep_in ht HNI.out])
            go_wp2
            go_roundw
            case rel => exact ⟨k + 1, by go_num, by omega, Lib.hid (by rw [HE.out]; exact ⟨HU5.out, HL5.out⟩)⟩
            case measure => simp only [intOf]; omega
      · have hq : (x.kind == 3) = false := by simpa using hkd
        have HE : Hid (impUp ss (impP ss) s c.items (k + 1) = impUp ss (impP ss) s c.items k) := Lib.hid (by rw [HST.out, impStep_other hkd])
        clear hkd
        go_wp2
        go_roundw
        case rel => exact ⟨k + 1, by go_num, by omega, Lib.hid (by rw [HE.out]; exact ⟨HUI.out, HLI.out⟩)⟩
        case measure => simp only [intOf]; omega
    · obtain rfl : k = c.items.length := by omega
      go_wp2
      go_ret
      exact ⟨_, rfl, by rw [HIE.out]; exact hP.out.1, hP.out.2⟩
end Go.Proofs.YtgehpaojbnpbcaaGreatDoor
namespace Go.Proofs.YtgehpaojbnpbcaaGreatDoor
open Go Go.RowKit Go.Maps
/-- What a call leaves beside the lookup: a list of places of its own. -/
def PlsLeft (l : List (Int × Int)) (w : World) (B L M T M1 M2 : Nat) (v : Value) (ds : List Nd) (ss : List Sc) (e : Ending) (w' : World) : Prop :=
  ∃ u, e = .returned u ∧ w'.ownsRow w.heap.size 59 2 u l.length (placeCells l) ∧ Left w w' B L M T M1 M2 v ds ss
set_option maxRecDepth 100000 in
set_option maxHeartbeats 4000000 in
theorem imported_any {ss : List Sc} (hv : Valid ss) {w : World} {B L M T M1 M2 : Nat} {v : Value} {ds : List Nd} (hL : LookW w B L M T M1 M2 v ds ss) {s : Nat} {d : Nd} (hd : ds[s]? = some d) (hT : TargetC B L M T M1 M2 v ds ss s) (nm : ByteArray) :
    Calls Tryz.prog 135 #[.pointer (some ⟨L, 0, none⟩), .pointer (some ⟨d.blk, 0, none⟩), .string nm] w (PlsLeft (fromP ss (impP ss s) nm) w B L M T M1 M2 v ds ss) := by
  have C := Lib.hid (importsOf_any hv hL hd hT)
  have HV := Lib.hid hv
  have HL0 := Lib.hid hL
  clear hv hL hd hT
  go_enter Tryz.func135, Tryz.ntmps135
  go_wp2_with fail
  refine C.out.mono ?_
  rintro e w1 ⟨u1, rfl, hrow1, hl1⟩
  obtain ⟨o1, c1, rfl, hh1⟩ := holdsInts_of_owns hrow1
  have HL1 := Lib.hid hl1
  have HI := Lib.hid hh1
  have hn6 : (natInts (impP ss s)).length ≤ 5 := by rw [natInts_length]; exact impP_length HV.out s
  have HN : Hid ((natInts (impP ss s)).length = (impP ss s).length) := Lib.hid (natInts_length _)
  have HOK := Lib.hid (impP_ok HV.out s).1
  have hs6 := HV.out.count.2
  have HLEN : Hid (ds.length = ss.length) := Lib.hid HL0.out.tree.hold.len
  clear hrow1 hl1 hh1
  go_wp2
  go_loopw [7, 14] (fun u i wr => ∃ k : Nat, i = .int .i64 k ∧ k ≤ (natInts (impP ss s)).length ∧ Hid (wr.ownsRow w1.heap.size 59 2 u (fromP ss ((impP ss s).take k) nm).length (placeCells (fromP ss ((impP ss s).take k) nm)) ∧ Left w wr B L M T M1 M2 v ds ss ∧ Below w1.heap.size w1 wr)) (fun _ i _ => (natInts (impP ss s)).length - (intOf i).toNat)
  case atStart => exact ⟨0, rfl, Nat.zero_le _, Lib.hid ⟨World.ownsRow_nil _ _ _ _, HL1.out, Below.refl _ _⟩⟩
  case round =>
    obtain ⟨k, rfl, hk, hP⟩ := hrel
    by_cases hlt : k < (natInts (impP ss s)).length
    · obtain ⟨x, hx⟩ : ∃ x, (impP ss s)[k]? = some x := ⟨_, List.getElem?_eq_getElem (by rw [HN.out] at hlt; exact hlt)⟩
      have hxi : (natInts (impP ss s))[k]? = some (x : Int) := by unfold natInts; rw [List.getElem?_map, hx]; rfl
      obtain ⟨b1, f1, rfl, hb1, q1⟩ := HI.out.at (by omega)
      have a0 := (hP.out.2.2.cell (p := ⟨b1, f1 + k, none⟩) hb1).trans (q1 k _ hxi)
      have hxl := HOK.out x (List.mem_of_getElem? hx)
      obtain ⟨dx, hdx⟩ : ∃ e, ds[x]? = some e := ⟨_, List.getElem?_eq_getElem (by rw [HLEN.out]; exact hxl)⟩
      have hTr := hP.out.2.1.look.tree
      obtain ⟨g, cap', rfl, hgB, hg, hslot⟩ := hTr.tree.slot (by intro e; rw [e] at hdx; simp at hdx)
      have s0 := hslot x dx hdx
      unfold Nd.ptr at s0
      have t0 := hTr.tree.box.cell (i := 0) (by rfl)
      have l0 := hP.out.2.1.look.box.cell (i := 0) (by rfl)
      have hdl : ds.length = ss.length := HLEN.out
      have C2 := Lib.hid (own_any HV.out hTr hdx nm)
      have HTK : Hid (fromP ss ((impP ss s).take (k + 1)) nm = fromP ss ((impP ss s).take k) nm ++ ownP ss x nm) := Lib.hid (by rw [List.take_add_one, hx]; exact fromP_snoc _ _ _ _)
      have hfl : (fromP ss ((impP ss s).take k) nm).length ≤ 30 := by
        have h1 := fromP_length HV.out nm ((impP ss s).take k)
        rw [List.length_take] at h1
        have h2 := HN.out
        omega
      have hol := ownP_length HV.out x nm
      clear hx hxi q1 hTr hslot hdx
      go_wp2_with fail
      refine C2.out.mono ?_
      rintro e w2 ⟨u, rfl, hu, hb2⟩
      have HU2 := Lib.hid (ownsRow_below hP.out.1 hb2)
      have HL2 := Lib.hid (hP.out.2.1.step hb2)
      have HB2 := Lib.hid (hP.out.2.2.trans (hb2.mono hP.out.2.2.size))
      obtain ⟨v', w3, hrun, hown', hgrow⟩ := append_places HU2.out hu (by omega) HB2.out.size 36
      have HL3 := Lib.hid (Left.far HL0.out HL2.out (grown_below HU2.out hgrow HL1.out.turns.size HL2.out.turns.size))
      have HB3 := Lib.hid (HB2.out.trans (grown_below HU2.out hgrow (Nat.le_refl _) HB2.out.size))
      have HU3 : Hid (w3.ownsRow w1.heap.size 59 2 v' (fromP ss ((impP ss s).take (k + 1)) nm).length (placeCells (fromP ss ((impP ss s).take (k + 1)) nm))) := Lib.hid (by rw [HTK.out, List.length_append, placeCells_append]; exact hown')
      have HRUN := Lib.hid hrun
      clear hown' hgrow hu hb2 hrun
      go_wp2_with (at_builtin; refine wpList_append_run rfl _ _ 36 rfl HRUN.out ?_)
      go_wp2
      go_roundw
      case rel => exact ⟨k + 1, by go_num, by omega, Lib.hid ⟨HU3.out, HL3.out, HB3.out⟩⟩
      case measure => simp only [intOf]; omega
    · obtain rfl : k = (natInts (impP ss s)).length := by omega
      have HE : Hid ((impP ss s).take (natInts (impP ss s)).length = impP ss s) := Lib.hid (by rw [HN.out, List.take_length])
      go_wp2
      go_ret
      exact ⟨_, rfl, by have := hP.out.1; rw [HE.out] at this; exact ownsRow_lower this HL1.out.turns.size, hP.out.2.1⟩
/-- What a way answers. -/
def wayP (ss : List Sc) (s : Nat) (nm : ByteArray) : Nat → List (Int × Int)
  | 1 => ownP ss s nm
  | _ => fromP ss (impP ss s) nm
set_option maxRecDepth 100000 in
theorem wayFrom_any {ss : List Sc} (hv : Valid ss) {w : World} {B L M T M1 M2 : Nat} {v : Value} {ds : List Nd} (hL : LookW w B L M T M1 M2 v ds ss) {s : Nat} {d : Nd} (hd : ds[s]? = some d) (hT : TargetC B L M T M1 M2 v ds ss s) (nm : ByteArray) (y : Nat) (hy : y = 1 ∨ y = 2) :
    Calls Tryz.prog 129 #[.int .i64 (y : Int), .pointer (some ⟨L, 0, none⟩), .pointer (some ⟨d.blk, 0, none⟩), .string nm] w (PlsLeft (wayP ss s nm y) w B L M T M1 M2 v ds ss) := by
  have C1 := Lib.hid (own_any hv hL.tree hd nm)
  have C2 := Lib.hid (imported_any hv hL hd hT nm)
  have HL0 := Lib.hid hL
  clear hv hL hd hT
  rcases hy with rfl | rfl
  · go_enter Tryz.func129, Tryz.ntmps129
    go_wp2_with fail
    refine C1.out.mono ?_
    rintro e w1 ⟨u, rfl, hu, hb⟩
    have HU := Lib.hid hu
    have HL1 := Lib.hid (HL0.out.left.step hb)
    clear hu hb
    go_wp2
    go_ret
    exact ⟨_, rfl, HU.out, HL1.out⟩
  · go_enter Tryz.func129, Tryz.ntmps129
    go_wp2_with fail
    refine C2.out.mono ?_
    rintro e w1 ⟨u, rfl, hu, hl⟩
    have HU := Lib.hid hu
    have HL1 := Lib.hid hl
    clear hu hl
    go_wp2
    go_ret
    exact ⟨_, rfl, HU.out, HL1.out⟩
end Go.Proofs.YtgehpaojbnpbcaaGreatDoor
namespace Go.Proofs.YtgehpaojbnpbcaaGreatDoor
open Go Go.RowKit Go.Maps
attribute [local go_sem] Oper.semAt_some
/-- A node with its number, which is one of these. -/
abbrev NdIn (ds : List Nd) (cl : List Nat) := { q : Nat × Nd // ds[q.1]? = some q.2 ∧ q.1 ∈ cl }
def NdIn.num {ds : List Nd} {cl : List Nat} (x : NdIn ds cl) : Nat := x.1.1
set_option maxRecDepth 100000 in
set_option maxHeartbeats 4000000 in
theorem outward1_inC (n : Nat) (hn : 1 ≤ n) (l Bn B T M1 M2 : Nat) (v : Value) (ds : List Nd) (ss : List Sc) (w0 : World) (hT : Tree w0 B T M1 M2 v ds) (hP : Pars ds ss) (hC : Climbs ss) (hl : ds.length = ss.length) (s : Nat) (d : Nd) (hd : ds[s]? = some d)
    (J Jx : List (NdIn ds (chainP ss s)) → World → Prop) (W : World)
    (hY : ∀ pre x W1, J pre W1 → CellsKept w0.heap.size w0 W1 → pre.length < (chainP ss s).length → YieldAt Fence.wide (n - 1) Tryz.prog l (ndArgs x.1.2) W1 fun e W' =>
      (e = .returned (.bool true) ∧ J (pre ++ [x]) W' ∧ CellsKept w0.heap.size W1 W') ∨ (e = .returned (.bool false) ∧ Jx (pre ++ [x]) W'))
    (hk : CellsKept w0.heap.size w0 W) (hBn : W.cell? ⟨Bn, 0, none⟩ = some (.pointer (some ⟨d.blk, 0, none⟩))) (h0 : J [] W) :
    CallsIn Fence.wide n Tryz.prog 134 #[.func (.yield l) #[] #[], .pointer (some ⟨Bn, 0, none⟩)] W fun e W' => (∃ v, e = .returned v) ∧
      ((∃ ys : List (NdIn ds (chainP ss s)), ys.map NdIn.num = chainP ss s ∧ J ys W') ∨ (∃ pre : List (NdIn ds (chainP ss s)), pre.map NdIn.num <+: chainP ss s ∧ Jx pre W')) := by
  have HT := Lib.hid hT
  have HP := Lib.hid hP
  have HC := Lib.hid hC
  have HL := Lib.hid hl
  have HD := Lib.hid hd
  clear hT hP hC hl hd
  refine callsIn_of_wp Tryz.func134 rfl trivial ?_ rfl
  simp only [Tryz.ntmps134, List.size_toArray, List.length_cons, List.length_nil, Nat.reduceAdd, Nat.reduceSub, Array.replicate_succ, Array.replicate_zero, List.push_toArray, List.append_toArray, List.nil_append, List.cons_append]
  gi_wp2
  gi_loopw [3] (fun p wr => ∃ (pre : List (NdIn ds (chainP ss s))), J pre wr ∧ CellsKept w0.heap.size w0 wr ∧
      ((p = .pointer none ∧ Hid (pre.map NdIn.num = chainP ss s)) ∨ ∃ (i : Nat) (c : Nd), p = .pointer (some ⟨c.blk, 0, none⟩) ∧ Hid (ds[i]? = some c) ∧ Hid (pre.map NdIn.num ++ chainP ss i = chainP ss s))) (fun p _ => rank ds p)
  case atStart => exact ⟨[], h0, hk, .inr ⟨s, d, rfl, HD, Lib.hid rfl⟩⟩
  case round =>
    obtain ⟨pre, hJ, hkr, ⟨rfl, hpre⟩ | ⟨i, c, rfl, hc, hpre⟩⟩ := hrel
    · gi_wp2
      go_end0
      exact ⟨⟨_, rfl⟩, .inl ⟨pre, hpre.out, hJ⟩⟩
    · have hlen : pre.length < (chainP ss s).length := by
        have := congrArg List.length hpre.out
        obtain ⟨t, ht⟩ := chain_head ss i
        rw [ht] at this
        simp at this
        omega
      have HMEM : i ∈ chainP ss s := by
        obtain ⟨t, ht⟩ := chain_head ss i
        rw [← hpre.out, ht]
        simp
      have HCM := Lib.hid (And.intro hc.out HMEM)
      clear HMEM
      obtain ⟨fn, tmps, assign, body, hy, hR⟩ := hY pre ⟨(i, c), HCM.out⟩ wr hJ hkr hlen
      dsimp only [ndArgs] at hy
      have HR := Lib.hid (hR.mono (R' := fun e W' => ∃ q, e = .returned (.bool q) ∧ Hid ((q = true ∧ J (pre ++ [⟨(i, c), HCM.out⟩]) W' ∧ CellsKept w0.heap.size wr W') ∨ (q = false ∧ Jx (pre ++ [⟨(i, c), HCM.out⟩]) W'))) (by
        rintro e W' (⟨he, h1, h2⟩ | ⟨he, h1⟩)
        · exact ⟨true, he, Lib.hid (.inl ⟨rfl, h1, h2⟩)⟩
        · exact ⟨false, he, Lib.hid (.inr ⟨rfl, h1⟩)⟩))
      have HKR := Lib.hid hkr
      have HRK := Lib.hid (rank_of HT.out.inj hc.out)
      clear hR hlen hkr
      gi_wp2
      refine HR.out.mono ?_
      rintro e W3 ⟨q, rfl, hq⟩
      rcases hq.out with ⟨rfl, hJ3, hk3⟩ | ⟨rfl, hx3⟩
      · have HK3 := Lib.hid (HKR.out.trans hk3)
        have hpc := (((HT.out.kept HK3.out (Nat.le_refl _)).node i c hc.out).2.cell (i := 1) (v := .pointer c.par) (by rfl))
        rcases par_ptr HP.out HC.out HL.out hc.out with ⟨h1, h2⟩ | ⟨p, e', h1, hlt, h2, h3⟩
        · have HE : Hid ((pre ++ [(⟨(i, c), HCM.out⟩ : NdIn ds (chainP ss s))]).map NdIn.num = chainP ss s) := Lib.hid (by refine Eq.trans ?_ hpre.out; rw [chain_none h1, List.map_append]; rfl)
          rw [h2] at hpc
          clear hk3 h1 h2
          gi_wp2
          exact ⟨⟨_, hJ3, HK3.out, .inl ⟨rfl, HE⟩⟩, by rw [HRK.out]; simp [rank]⟩
        · have HE : Hid ((pre ++ [(⟨(i, c), HCM.out⟩ : NdIn ds (chainP ss s))]).map NdIn.num ++ chainP ss p = chainP ss s) := Lib.hid (by refine Eq.trans ?_ hpre.out; rw [chain_some HC.out h1, List.map_append, List.append_assoc]; rfl)
          have HP2 := Lib.hid h2
          have HR2 := Lib.hid (rank_of HT.out.inj h2)
          rw [h3] at hpc
          clear hk3 h1 h2 h3
          gi_wp2
          exact ⟨⟨_, hJ3, HK3.out, .inr ⟨p, e', rfl, HP2, HE⟩⟩, by rw [HRK.out, HR2.out]; omega⟩
      · have HE : Hid ((pre ++ [(⟨(i, c), HCM.out⟩ : NdIn ds (chainP ss s))]).map NdIn.num <+: chainP ss s) := Lib.hid (by
          obtain ⟨t, ht⟩ := chain_head ss i
          exact ⟨t, Eq.trans (by rw [ht, List.map_append]; simp [NdIn.num]) hpre.out⟩)
        gi_wp2
        refine bodyPost_ret (results_none rfl _ _ _) rfl ?_
        exact ⟨⟨_, rfl⟩, .inr ⟨_, HE.out, hx3⟩⟩
theorem outward_stopsC (n : Nat) (hn : 1 ≤ n) (Bn B T M1 M2 : Nat) (v : Value) (ds : List Nd) (ss : List Sc) (w0 w : World) (hT : Tree w0 B T M1 M2 v ds) (hP : Pars ds ss) (hC : Climbs ss) (hl : ds.length = ss.length) (s : Nat) (d : Nd) (hd : ds[s]? = some d)
    (hk : CellsKept w0.heap.size w0 w) (hBn : w.cell? ⟨Bn, 0, none⟩ = some (.pointer (some ⟨d.blk, 0, none⟩))) :
    SeqStopsK Fence.wide n Tryz.prog 134 #[.pointer (some ⟨Bn, 0, none⟩)] (fun x : NdIn ds (chainP ss s) => ndArgs x.1.2) (CellsKept w0.heap.size) (fun ys => ys.map NdIn.num = chainP ss s) (fun pre => pre.map NdIn.num <+: chainP ss s) (chainP ss s).length w :=
  fun l J Jx W hW _ _ hY h0 =>
    outward1_inC n hn l Bn B T M1 M2 v ds ss w0 hT hP hC hl s d hd J Jx W (fun pre x W1 h _ hlen => hY pre x W1 h hlen) (hk.trans ((CellsKept.of_below hW).mono hk.size)) ((hW.cell (p := ⟨Bn, 0, none⟩) (World.block_lt_of_cell? _ _ hBn)).trans hBn) h0
set_option maxRecDepth 100000 in
/-- From no node: no round. -/
theorem outward_none (n : Nat) (Bn : Nat) (ds : List Nd) (w0 w : World) (hBn : w.cell? ⟨Bn, 0, none⟩ = some (.pointer none)) :
    SeqStopsK Fence.wide n Tryz.prog 134 #[.pointer (some ⟨Bn, 0, none⟩)] (fun x : NdIn ds [] => ndArgs x.1.2) (CellsKept w0.heap.size) (fun ys => ys.map NdIn.num = []) (fun pre => pre.map NdIn.num <+: []) 0 w := by
  intro l J Jx W hW _ _ hY h0
  have hB := (hW.cell (p := ⟨Bn, 0, none⟩) (World.block_lt_of_cell? _ _ hBn)).trans hBn
  have H0 := Lib.hid h0
  clear h0 hY
  refine callsIn_of_wp Tryz.func134 rfl trivial ?_ rfl
  simp only [Tryz.ntmps134, List.size_toArray, List.length_cons, List.length_nil, Nat.reduceAdd, Nat.reduceSub, Array.replicate_succ, Array.replicate_zero, List.push_toArray, List.append_toArray, List.nil_append, List.cons_append]
  gi_wp2
  gi_loopw [3] (fun p wr => p = .pointer none ∧ wr = W) (fun p _ => 0)
  case atStart => exact ⟨rfl, rfl⟩
  case round =>
    obtain ⟨rfl, rfl⟩ := hrel
    gi_wp2
    go_end0
    exact ⟨⟨_, rfl⟩, .inl ⟨[], rfl, H0.out⟩⟩
theorem build_find (w : World) : (Instr.build 196 #[(0, .int .i64 (-1))]).run Tryz.prog w = .ok (.agg #[.int .i64 (-1), .int .i64 0, .slice none 0 0]) w := by kernel_rfl
theorem index_way0 (w : World) : (Instr.index 206 (.agg #[.int .i64 1, .int .i64 2]) (.int .i64 ((0 : Nat) : Int))).run Tryz.prog w = .ok (.int .i64 1) w := by kernel_rfl
theorem index_way1 (w : World) : (Instr.index 206 (.agg #[.int .i64 1, .int .i64 2]) (.int .i64 ((1 : Nat) : Int))).run Tryz.prog w = .ok (.int .i64 2) w := by kernel_rfl
theorem index_way0' (w : World) : (Instr.index 206 (.agg #[.int .i64 1, .int .i64 2]) (.int .i64 0)).run Tryz.prog w = .ok (.int .i64 1) w := by kernel_rfl
theorem index_way1' (w : World) : (Instr.index 206 (.agg #[.int .i64 1, .int .i64 2]) (.int .i64 1)).run Tryz.prog w = .ok (.int .i64 2) w := by kernel_rfl
attribute [local go_sem ↓] build_find index_way0 index_way1 index_way0' index_way1'
/-- What find answers. -/
def FindGot (f : Found) (w : World) (B L M T M1 M2 : Nat) (v : Value) (ds : List Nd) (ss : List Sc) (e : Ending) (w' : World) : Prop :=
  ∃ u, e = .returned (.agg #[.int .i64 f.scope, .int .i64 f.way, u]) ∧ w'.ownsRow w.heap.size 59 2 u f.places.length (placeCells f.places) ∧ Left w w' B L M T M1 M2 v ds ss
theorem left_own {w : World} {B L M T M1 M2 n : Nat} {v : Value} {ds : List Nd} {ss : List Sc} {α : Type} (hL : LookW w B L M T M1 M2 v ds ss) (hn : w.heap.size ≤ n) : OwnFrom n (fun (_ : α) W => Left w W B L M T M1 M2 v ds ss) :=
  fun _ _ _ _ hs hg hr => Left.far hL hs ((Below.refl w.heap.size _).grown hg hs.turns.size (fun r e => Nat.le_trans hn (hr r e).1))
/-- Nothing found at the scopes that were passed. -/
def Passed (ss : List Sc) (nm : ByteArray) (l : List Nat) : Prop := ∀ m ∈ l, (ownP ss m nm).length = 0 ∧ (fromP ss (impP ss m) nm).length = 0
theorem passed_all {ss : List Sc} {nm : ByteArray} : ∀ {l : List Nat}, Passed ss nm l → lookF ss (impP ss) nm l = ⟨-1, 0, []⟩
  | [], _ => rfl
  | m :: r, h => by
    have h1 := h m List.mem_cons_self
    rw [lookF_cons_next (by omega) (by omega)]
    exact passed_all fun x hx => h x (List.mem_cons_of_mem _ hx)
theorem passed_skip {ss : List Sc} {nm : ByteArray} : ∀ {l r : List Nat}, Passed ss nm l → lookF ss (impP ss) nm (l ++ r) = lookF ss (impP ss) nm r
  | [], _, _ => rfl
  | m :: l, r, h => by
    have h1 := h m List.mem_cons_self
    rw [List.cons_append, lookF_cons_next (by omega) (by omega)]
    exact passed_skip fun x hx => h x (List.mem_cons_of_mem _ hx)
/-- The world in which the loop begins. -/
structure FindAt (w W0 : World) (L : Nat) (pa : Option Addr) (nm : ByteArray) : Prop where
  size : W0.heap.size = w.heap.size + 1 + 1 + 1 + 1 + 1
  below : Below w.heap.size w W0
  r3 : Row W0 w.heap.size 147 [.pointer (some ⟨L, 0, none⟩)]
  r5 : Row W0 (w.heap.size + 1) 9 [.string nm]
  r6 : Row W0 (w.heap.size + 1 + 1) 196 [.int .i64 0, .int .i64 0, .slice none 0 0]
  r7 : Row W0 (w.heap.size + 1 + 1 + 1) 196 [.int .i64 (-1), .int .i64 0, .slice none 0 0]
  rn : W0.cell? ⟨w.heap.size + 1 + 1 + 1 + 1, 0, none⟩ = some (.pointer pa)
theorem findAt (w : World) (L : Nat) (pa : Option Addr) (nm : ByteArray) : FindAt w (((((w.alloc (.cells #[.pointer (some ⟨L, 0, none⟩)] 147)).alloc (.cells #[.string nm] 9)).alloc (.cells #[.int .i64 0, .int .i64 0, .slice none 0 0] 196)).alloc (.cells #[.int .i64 (-1), .int .i64 0, .slice none 0 0] 196)).alloc (.cells #[.pointer pa] 191)) L pa nm where
  size := by simp
  below := (((((Below.refl _ _).alloc (Nat.le_refl _) _).alloc (by simp) _).alloc (by simp; omega) _).alloc (by simp; omega) _).alloc (by simp; omega) _
  r3 := ((((Row.new w [.pointer (some ⟨L, 0, none⟩)] 147).alloc _).alloc _).alloc _).alloc _
  r5 := by
    have h := (((Row.new (w.alloc (.cells #[.pointer (some ⟨L, 0, none⟩)] 147)) [.string nm] 9).alloc (.cells #[.int .i64 0, .int .i64 0, .slice none 0 0] 196)).alloc (.cells #[.int .i64 (-1), .int .i64 0, .slice none 0 0] 196)).alloc (.cells #[.pointer pa] 191)
    simp only [World.size_alloc] at h
    exact h
  r6 := by
    have h := ((Row.new ((w.alloc (.cells #[.pointer (some ⟨L, 0, none⟩)] 147)).alloc (.cells #[.string nm] 9)) [.int .i64 0, .int .i64 0, .slice none 0 0] 196).alloc (.cells #[.int .i64 (-1), .int .i64 0, .slice none 0 0] 196)).alloc (.cells #[.pointer pa] 191)
    simp only [World.size_alloc] at h
    exact h
  r7 := by
    have h := (Row.new (((w.alloc (.cells #[.pointer (some ⟨L, 0, none⟩)] 147)).alloc (.cells #[.string nm] 9)).alloc (.cells #[.int .i64 0, .int .i64 0, .slice none 0 0] 196)) [.int .i64 (-1), .int .i64 0, .slice none 0 0] 196).alloc (.cells #[.pointer pa] 191)
    simp only [World.size_alloc] at h
    exact h
  rn := by
    have h := (Boxed.new ((((w.alloc (.cells #[.pointer (some ⟨L, 0, none⟩)] 147)).alloc (.cells #[.string nm] 9)).alloc (.cells #[.int .i64 0, .int .i64 0, .slice none 0 0] 196)).alloc (.cells #[.int .i64 (-1), .int .i64 0, .slice none 0 0] 196)) 191 (.pointer pa)).cell
    simp only [World.size_alloc] at h
    exact h
/-- Where the loop was left. -/
structure FoundAt (w W : World) (B L M T M1 M2 : Nat) (v : Value) (ds : List Nd) (ss : List Sc) (f : Found) : Prop where
  left : Left w W B L M T M1 M2 v ds ss
  r6 : Row W (w.heap.size + 1 + 1) 196 [.int .i64 0, .int .i64 0, .slice none 0 0]
  r7 : ∃ u, Row W (w.heap.size + 1 + 1 + 1) 196 [.int .i64 f.scope, .int .i64 f.way, u] ∧ W.ownsRow w.heap.size 59 2 u f.places.length (placeCells f.places)
theorem foundAt_own {w : World} {B L M T M1 M2 n : Nat} {v : Value} {ds : List Nd} {ss : List Sc} (hL : LookW w B L M T M1 M2 v ds ss) (hn : w.heap.size ≤ n) : OwnFrom n (fun (f : Found) W => FoundAt w W B L M T M1 M2 v ds ss f) :=
  fun _ _ _ _ hs hg hr => ⟨left_own (α := Unit) hL hn () _ _ _ hs.left hg hr, hs.r6.kept_cells hg (fun r e => (hr r e).2), by
    obtain ⟨u, h1, h2⟩ := hs.r7
    refine ⟨u, h1.kept_cells hg (fun r e => (hr r e).2), h2.kept hg ?_⟩
    rcases h2.2 with ⟨rfl, _⟩ | ⟨g, cap, cur, rfl, _, hgb, _⟩
    · exact .inl rfl
    · refine .inr fun e => ?_
      obtain ⟨_, o, ho, hc⟩ := hr g (by simpa [Value.ownBlock] using e.symm)
      rw [hgb] at ho; cases ho; cases hc⟩
theorem grownBy_set (W : World) (b i : Nat) (v : Value) : W.grownBy (W.setCell ⟨b, i, none⟩ v) (some b) :=
  ⟨rfl, rfl, rfl, (KeepsWalks.setCell W _ v).size, fun k _ hk => Below.heap_setCell _ _ _ k (fun e => hk (by rw [e]))⟩
/-- The result stored, the call returned. -/
theorem find_end {w W : World} {B L M T M1 M2 D : Nat} {v u : Value} {ds : List Nd} {ss : List Sc} {f : Found} {x0 x1 x2 : Value} {t : Array Value} (hL : LookW w B L M T M1 M2 v ds ss) (hl : Left w W B L M T M1 M2 v ds ss)
    (r6 : Row W (w.heap.size + 1 + 1) 196 [x0, x1, x2]) (hown : W.ownsRow w.heap.size 59 2 u f.places.length (placeCells f.places)) (hD : w.heap.size + 5 ≤ D) (hK : W.heap[D]? = some (.deferred (some []))) (ht : t[6]? = some (.pointer (some ⟨w.heap.size + 1 + 1, 0, none⟩))) :
    Exit.noGoto (bodyPostM Fence.wide 6 Tryz.prog Tryz.f116 (FindGot f w B L M T M1 M2 v ds ss)) .ret { tmps := t, defers := [{ target := .collected D, args := #[] }] }
      (((W.setCell ⟨w.heap.size + 1 + 1, 0, none⟩ (.int .i64 f.scope)).setCell ⟨w.heap.size + 1 + 1, 1, none⟩ (.int .i64 f.way)).setCell ⟨w.heap.size + 1 + 1, 2, none⟩ u) := by
  have q6 := ((r6.set 0 (.int .i64 f.scope)).set 1 (.int .i64 f.way)).set 2 u
  have o6 := ((hown.kept (grownBy_set W _ 0 (.int .i64 f.scope)) (.inr (ownsRow_ne r6 (by decide) hown).symm)).kept (grownBy_set _ _ 1 (.int .i64 f.way)) (.inr (ownsRow_ne r6 (by decide) hown).symm)).kept (grownBy_set _ _ 2 u) (.inr (ownsRow_ne r6 (by decide) hown).symm)
  have hl6 := Left.far hL hl ((((Below.refl w.heap.size W).setCell (p := ⟨w.heap.size + 1 + 1, 0, none⟩) (by show w.heap.size ≤ w.heap.size + 1 + 1; omega) (.int .i64 f.scope)).setCell (p := ⟨w.heap.size + 1 + 1, 1, none⟩) (by show w.heap.size ≤ w.heap.size + 1 + 1; omega) (.int .i64 f.way)).setCell (p := ⟨w.heap.size + 1 + 1, 2, none⟩) (by show w.heap.size ≤ w.heap.size + 1 + 1; omega) u)
  have hK6 : (((W.setCell ⟨w.heap.size + 1 + 1, 0, none⟩ (.int .i64 f.scope)).setCell ⟨w.heap.size + 1 + 1, 1, none⟩ (.int .i64 f.way)).setCell ⟨w.heap.size + 1 + 1, 2, none⟩ u).heap[D]? = some (.deferred (some [])) := by
    rw [Below.heap_setCell _ _ _ _ (by show D ≠ w.heap.size + 1 + 1; omega), Below.heap_setCell _ _ _ _ (by show D ≠ w.heap.size + 1 + 1; omega), Below.heap_setCell _ _ _ _ (by show D ≠ w.heap.size + 1 + 1; omega)]
    exact hK
  generalize (((W.setCell ⟨w.heap.size + 1 + 1, 0, none⟩ (.int .i64 f.scope)).setCell ⟨w.heap.size + 1 + 1, 1, none⟩ (.int .i64 f.way)).setCell ⟨w.heap.size + 1 + 1, 2, none⟩ u) = W6 at q6 o6 hl6 hK6 ⊢
  refine ⟨by simp, .inl ⟨_, _, rfl, run_takeDeferred hK6, ?_⟩⟩
  have q7 : Row (W6.putObj D (.deferred none)) (w.heap.size + 1 + 1) 196 [.int .i64 f.scope, .int .i64 f.way, u] := q6.kept_cells (grownBy_putObj' W6 D _) (fun r e => by cases e; exact ⟨_, hK6, rfl⟩)
  have o7 := ownsRow_putObj o6 (.deferred none) hK6 rfl
  have hl7 := left_own (α := Unit) hL (Nat.le_refl _) () _ _ _ hl6 (grownBy_putObj' W6 D (.deferred none)) (fun r e => by cases e; exact ⟨by omega, _, hK6, rfl⟩)
  have c0 := q7.cell (i := 0) (v := .int .i64 f.scope) (by rfl)
  have c1 := q7.cell (i := 1) (v := .int .i64 f.way) (by rfl)
  have c2 := q7.cell (i := 2) (v := u) (by rfl)
  refine ⟨.agg #[.int .i64 f.scope, .int .i64 f.way, u], ?_, u, rfl, o7, hl7⟩
  clear hl o7 hl7 q6 o6 hl6 hL
  simp [results, Tryz.results116, go_sem, ht, c0, c1, c2]
set_option maxRecDepth 100000 in
set_option maxHeartbeats 8000000 in
theorem find_walk {ss : List Sc} (hv : Valid ss) {w : World} {B L M T M1 M2 : Nat} {v : Value} {ds : List Nd} (hL : LookW w B L M T M1 M2 v ds ss) (nm : ByteArray) (pa : Option Addr) (cl : List Nat) (hcl : cl.length ≤ 6)
    (hT : ∀ m ∈ cl, TargetC B L M T M1 M2 v ds ss m)
    (hseq : ∀ (Bn : Nat) (w0 w : World), TreeIs w0 B T M1 M2 v ds ss → CellsKept w0.heap.size w0 w → w.cell? ⟨Bn, 0, none⟩ = some (.pointer pa) →
      SeqStopsK Fence.wide 5 Tryz.prog 134 #[.pointer (some ⟨Bn, 0, none⟩)] (fun x : NdIn ds cl => ndArgs x.1.2) (CellsKept w0.heap.size) (fun ys => ys.map NdIn.num = cl) (fun pre => pre.map NdIn.num <+: cl) cl.length w) :
    Calls Tryz.prog 116 #[.pointer (some ⟨L, 0, none⟩), .pointer pa, .string nm] w (FindGot (lookF ss (impP ss) nm cl) w B L M T M1 M2 v ds ss) := by
  have HV := Lib.hid hv
  have HL := Lib.hid hL
  have HT := Lib.hid hT
  have HS := Lib.hid hseq
  have HCL := Lib.hid hcl
  have hM := hL.memo.lt
  clear hv hL hT hseq hcl
  refine (callsIn_wide (n := 6)).1 ?_
  refine callsIn_of_wp_marks Tryz.func116 rfl trivial ?_ rfl
  simp only [Tryz.ntmps116, List.size_toArray, List.length_cons, List.length_nil, Nat.reduceAdd, Nat.reduceSub, Array.replicate_succ, Array.replicate_zero, List.push_toArray, List.append_toArray, List.nil_append, List.cons_append]
  gi_wp2_with fail
  refine wpIn_wide.2 (wp_scope_straight ((wpIn_wide (n := 6)).1 ?_))
  gi_wp2_with fail
  refine wpIn_label ?_
  gi_wp2_with fail
  refine ⟨trivial, ?_⟩
  gi_at_call 128
  refine ((callsIn_wide (n := 5)).2 (outward_any _ _)).mono ?_
  rintro e w2 ⟨rfl, rfl⟩
  gi_wp2
  have hFA := findAt w L pa nm
  generalize hW0 : (((((w.alloc (.cells #[.pointer (some ⟨L, 0, none⟩)] 147)).alloc (.cells #[.string nm] 9)).alloc (.cells #[.int .i64 0, .int .i64 0, .slice none 0 0] 196)).alloc (.cells #[.int .i64 (-1), .int .i64 0, .slice none 0 0] 196)).alloc (.cells #[.pointer pa] 191)) = W0 at hFA ⊢
  clear hW0
  have HL0 := Lib.hid (HL.out.left.step hFA.below)
  have hz := hFA.size
  have HFA := Lib.hid hFA
  refine wpIn_rangeFunc_ownH rfl (by omega) (gf := 134) (lb := #[.pointer (some ⟨w.heap.size + 1 + 1 + 1 + 1, 0, none⟩)]) rfl trivial (enters_of Tryz.func134 (by kernel_rfl) rfl)
    (HS.out _ W0 W0 HL0.out.look.tree (CellsKept.refl _ _) HFA.out.rn) CellsKept.trans (fun W l o o' _ h1 h2 h3 => CellsKept.putObj W l o o' h1 h2) (Below.refl _ _) (fun _ => rfl)
    (fun pre W => Left w W B L M T M1 M2 v ds ss ∧ (CellsKept W0.heap.size W0 W ∧ Hid (Passed ss nm (pre.map NdIn.num))))
    (fun c pre W => c = .exit 0 ∧ ∃ f, Hid (∀ r, lookF ss (impP ss) nm (pre.map NdIn.num ++ r) = f) ∧ FoundAt w W B L M T M1 M2 v ds ss f)
    (OwnFrom.and (left_own HL.out (by omega)) (OwnFrom.and (cellsKept_own W0) (fun _ _ _ _ hs _ _ => hs)))
    (fun _ _ _ _ _ hs hg hr => ⟨hs.1, by obtain ⟨f, h1, h2⟩ := hs.2; exact ⟨f, h1, foundAt_own HL.out (by omega) f _ _ _ h2 hg hr⟩⟩)
    ⟨HL0.out, CellsKept.refl _ _, Lib.hid (fun m hm => by simp at hm)⟩
    (fun x a' _ => a' = { tmps := #[.pointer (some ⟨L, 0, none⟩), .pointer pa, .string nm, .pointer (some ⟨w.heap.size, 0, none⟩), undef, .pointer (some ⟨w.heap.size + 1, 0, none⟩), .pointer (some ⟨w.heap.size + 1 + 1, 0, none⟩), .pointer (some ⟨w.heap.size + 1 + 1 + 1, 0, none⟩), .pointer (some ⟨x.1.2.blk, 0, none⟩), undef, undef, undef,
      .agg #[.int .i64 (-1), .int .i64 0, .slice none 0 0], .pointer pa, .func (.func 134) #[] #[.pointer (some ⟨w.heap.size + 1 + 1 + 1 + 1, 0, none⟩)], .pointer (some ⟨x.1.2.blk, 0, none⟩), undef, undef, undef, undef, undef, undef, undef, undef, undef, undef, undef, undef, undef, undef, undef, undef, undef, undef, undef, undef, undef], defers := [] })
    (fun _ _ _ _ _ _ hs _ _ => hs)
    ?assign ?body ?done ?stop
  case assign =>
    rintro l pre x W K hi hK
    dsimp only [ndArgs]
    gi_wp2
    exact hK _ _ (KeepsFrom.refl _ _) (CellsKept.refl _ _) hi rfl
  case body =>
    rintro l pre x a' W hl _ ⟨hLW, hck, hps⟩ rfl hlen
    obtain ⟨⟨i, c⟩, hci, him⟩ := x
    dsimp only
    have HLW := Lib.hid hLW
    have HCK := Lib.hid hck
    have HPS := Lib.hid hps.out
    have HTC := Lib.hid (HT.out i him)
    have HCI := Lib.hid hci
    have HX : Hid ((pre ++ [(⟨(i, c), hci, him⟩ : NdIn ds cl)]).map NdIn.num = pre.map NdIn.num ++ [i]) := Lib.hid (by rw [List.map_append]; rfl)
    have hWs := hck.size
    generalize hpx : (pre ++ [(⟨(i, c), hci, him⟩ : NdIn ds cl)]) = px at HX ⊢
    have hst0 : Hid (Left W W B L M T M1 M2 v ds ss) := Lib.hid hLW.look.left
    clear hLW hck hps hpx
    gi_wp2
    gi_loopw [17] (fun iv wr => ∃ k : Nat, iv = .int .i64 k ∧ k ≤ 2 ∧ Hid (Left W wr B L M T M1 M2 v ds ss ∧ (1 ≤ k → (ownP ss i nm).length = 0) ∧ (2 ≤ k → (fromP ss (impP ss i) nm).length = 0))) (fun iv _ => 2 - (intOf iv).toNat)
    case atStart => exact ⟨0, rfl, by omega, Lib.hid ⟨hst0.out, fun h => by omega, fun h => by omega⟩⟩
    case round =>
      obtain ⟨k, rfl, hk, hP⟩ := hrel
      by_cases hlt : k < 2
      · have HKW := Lib.hid (HCK.out.trans ((hP.out.1.turns.cellsM HLW.out.look.memo).mono hWs))
        have g3 := HKW.out.cell (by omega) (HFA.out.r3.cell (i := 0) (by rfl))
        have g5 := HKW.out.cell (by omega) (HFA.out.r5.cell (i := 0) (by rfl))
        have hi2 : k = 0 ∨ k = 1 := by omega
        rcases hi2 with rfl | rfl
        · have HC := Lib.hid (CallsIn.inRound l ((callsIn_wide (n := 3)).2 (wayFrom_any HV.out hP.out.1.look HCI.out HTC.out nm 1 (by omega))))
          rw [show wayP ss i nm 1 = ownP ss i nm from rfl] at HC
          have hlen2 : (ownP ss i nm).length ≤ 25 := by
            have := ownP_length HV.out i nm; omega
          gi_wp2_with fail
          refine ⟨trivial, ?_⟩
          gi_at_call 129
          refine HC.out.mono ?_
          rintro e w3 ⟨u, rfl, hrow3, hl3⟩
          obtain ⟨ou, cu, rfl⟩ := ownsRow_slice hrow3
          have HL3 := Lib.hid (hP.out.1.trans hl3)
          have HK3 := Lib.hid (HCK.out.trans ((HL3.out.turns.cellsM HLW.out.look.memo).mono hWs))
          have HR3 : Hid (w3.ownsRow w.heap.size 59 2 (.slice ou (ownP ss i nm).length cu) (ownP ss i nm).length (placeCells (ownP ss i nm))) := Lib.hid (ownsRow_lower hrow3 (Nat.le_trans HLW.out.turns.size hP.out.1.turns.size))
          clear hrow3 hl3 g3 g5
          by_cases hpos : 0 < (ownP ss i nm).length
          · have R7 : Row w3 (w.heap.size + 1 + 1 + 1) 196 [.int .i64 (-1), .int .i64 0, .slice none 0 0] := HK3.out.block _ _ _ _ (by omega) HFA.out.r7
            have R6 : Row w3 (w.heap.size + 1 + 1) 196 [.int .i64 0, .int .i64 0, .slice none 0 0] := HK3.out.block _ _ _ _ (by omega) HFA.out.r6
            have c0 := R7.cell (i := 0) (v := .int .i64 (-1)) (by rfl)
            have c1 := R7.cell (i := 1) (v := .int .i64 0) (by rfl)
            have c2 := R7.cell (i := 2) (v := .slice none 0 0) (by rfl)
            have f0 : ∀ k, w3.frozen? ⟨w.heap.size + 1 + 1 + 1, k, none⟩ = false := fun k => R7.frozen k
            have m0 := ((HL3.out.look.tree.tree.node i c HCI.out).2.cell (i := 0) (v := .int .i64 (i : Int)) (by rfl))
            have HR7 := Lib.hid R7
            have HR6 := Lib.hid R6
            have HFN : Hid (∀ r, lookF ss (impP ss) nm (px.map NdIn.num ++ r) = ⟨(i : Int), 1, ownP ss i nm⟩) := Lib.hid (fun r => by
              rw [HX.out, List.append_assoc, passed_skip HPS.out, List.singleton_append]
              exact lookF_cons_own hpos)
            clear R7 R6
            gi_wp2
            refine ⟨?_, rfl, _, HFN, ⟨?_, ?_, .slice ou (ownP ss i nm).length cu, ?_, ?_⟩⟩
            · exact (HL3.out.turns.keepsFrom (by omega) (by omega)).trans ((((KeepsOthers.setCell _ _ _).trans (KeepsOthers.setCell _ _ _)).trans (KeepsOthers.setCell _ _ _)).from _)
            · exact Left.far HL.out (HLW.out.trans HL3.out) ((((Below.refl w.heap.size w3).setCell (p := ⟨w.heap.size + 1 + 1 + 1, 0, none⟩) (by show w.heap.size ≤ w.heap.size + 1 + 1 + 1; omega) _).setCell (p := ⟨w.heap.size + 1 + 1 + 1, 1, none⟩) (by show w.heap.size ≤ w.heap.size + 1 + 1 + 1; omega) _).setCell (p := ⟨w.heap.size + 1 + 1 + 1, 2, none⟩) (by show w.heap.size ≤ w.heap.size + 1 + 1 + 1; omega) _)
            · exact ((HR6.out.other (by show w.heap.size + 1 + 1 + 1 ≠ w.heap.size + 1 + 1; omega) _).other (by show w.heap.size + 1 + 1 + 1 ≠ w.heap.size + 1 + 1; omega) _).other (by show w.heap.size + 1 + 1 + 1 ≠ w.heap.size + 1 + 1; omega) _
            · exact ((HR7.out.set 0 _).set 1 _).set 2 _
            · exact ((HR3.out.kept (grownBy_set _ _ 0 _) (.inr (ownsRow_ne HR7.out (by decide) HR3.out).symm)).kept (grownBy_set _ _ 1 _) (.inr (ownsRow_ne HR7.out (by decide) HR3.out).symm)).kept (grownBy_set _ _ 2 _) (.inr (ownsRow_ne HR7.out (by decide) HR3.out).symm)
          · have hz0 : (ownP ss i nm).length = 0 := by omega
            have HZ := Lib.hid hz0
            have HST : Hid (Left W w3 B L M T M1 M2 v ds ss ∧ (1 ≤ 1 → (ownP ss i nm).length = 0) ∧ (2 ≤ 1 → (fromP ss (impP ss i) nm).length = 0)) := Lib.hid ⟨HL3.out, fun _ => HZ.out, fun h => by omega⟩
            gi_wp2
            exact ⟨⟨1, rfl, by omega, HST⟩, by simp only [intOf]; omega⟩
        · have HC := Lib.hid (CallsIn.inRound l ((callsIn_wide (n := 3)).2 (wayFrom_any HV.out hP.out.1.look HCI.out HTC.out nm 2 (by omega))))
          rw [show wayP ss i nm 2 = fromP ss (impP ss i) nm from rfl] at HC
          have hlen2 : (fromP ss (impP ss i) nm).length ≤ 25 := by
            have h1 := fromP_length HV.out nm (impP ss i); have h2 := impP_length HV.out i; omega
          gi_wp2_with fail
          refine ⟨trivial, ?_⟩
          gi_at_call 129
          refine HC.out.mono ?_
          rintro e w3 ⟨u, rfl, hrow3, hl3⟩
          obtain ⟨ou, cu, rfl⟩ := ownsRow_slice hrow3
          have HL3 := Lib.hid (hP.out.1.trans hl3)
          have HK3 := Lib.hid (HCK.out.trans ((HL3.out.turns.cellsM HLW.out.look.memo).mono hWs))
          have HR3 : Hid (w3.ownsRow w.heap.size 59 2 (.slice ou (fromP ss (impP ss i) nm).length cu) (fromP ss (impP ss i) nm).length (placeCells (fromP ss (impP ss i) nm))) := Lib.hid (ownsRow_lower hrow3 (Nat.le_trans HLW.out.turns.size hP.out.1.turns.size))
          clear hrow3 hl3 g3 g5
          by_cases hpos : 0 < (fromP ss (impP ss i) nm).length
          · have R7 : Row w3 (w.heap.size + 1 + 1 + 1) 196 [.int .i64 (-1), .int .i64 0, .slice none 0 0] := HK3.out.block _ _ _ _ (by omega) HFA.out.r7
            have R6 : Row w3 (w.heap.size + 1 + 1) 196 [.int .i64 0, .int .i64 0, .slice none 0 0] := HK3.out.block _ _ _ _ (by omega) HFA.out.r6
            have c0 := R7.cell (i := 0) (v := .int .i64 (-1)) (by rfl)
            have c1 := R7.cell (i := 1) (v := .int .i64 0) (by rfl)
            have c2 := R7.cell (i := 2) (v := .slice none 0 0) (by rfl)
            have f0 : ∀ k, w3.frozen? ⟨w.heap.size + 1 + 1 + 1, k, none⟩ = false := fun k => R7.frozen k
            have m0 := ((HL3.out.look.tree.tree.node i c HCI.out).2.cell (i := 0) (v := .int .i64 (i : Int)) (by rfl))
            have HR7 := Lib.hid R7
            have HR6 := Lib.hid R6
            have HFN : Hid (∀ r, lookF ss (impP ss) nm (px.map NdIn.num ++ r) = ⟨(i : Int), 2, fromP ss (impP ss i) nm⟩) := Lib.hid (fun r => by
              rw [HX.out, List.append_assoc, passed_skip HPS.out, List.singleton_append]
              exact lookF_cons_from (by have := hP.out.2.1 (by omega); omega) hpos)
            clear R7 R6
            gi_wp2
            refine ⟨?_, rfl, _, HFN, ⟨?_, ?_, .slice ou (fromP ss (impP ss i) nm).length cu, ?_, ?_⟩⟩
            · exact (HL3.out.turns.keepsFrom (by omega) (by omega)).trans ((((KeepsOthers.setCell _ _ _).trans (KeepsOthers.setCell _ _ _)).trans (KeepsOthers.setCell _ _ _)).from _)
            · exact Left.far HL.out (HLW.out.trans HL3.out) ((((Below.refl w.heap.size w3).setCell (p := ⟨w.heap.size + 1 + 1 + 1, 0, none⟩) (by show w.heap.size ≤ w.heap.size + 1 + 1 + 1; omega) _).setCell (p := ⟨w.heap.size + 1 + 1 + 1, 1, none⟩) (by show w.heap.size ≤ w.heap.size + 1 + 1 + 1; omega) _).setCell (p := ⟨w.heap.size + 1 + 1 + 1, 2, none⟩) (by show w.heap.size ≤ w.heap.size + 1 + 1 + 1; omega) _)
            · exact ((HR6.out.other (by show w.heap.size + 1 + 1 + 1 ≠ w.heap.size + 1 + 1; omega) _).other (by show w.heap.size + 1 + 1 + 1 ≠ w.heap.size + 1 + 1; omega) _).other (by show w.heap.size + 1 + 1 + 1 ≠ w.heap.size + 1 + 1; omega) _
            · exact ((HR7.out.set 0 _).set 1 _).set 2 _
            · exact ((HR3.out.kept (grownBy_set _ _ 0 _) (.inr (ownsRow_ne HR7.out (by decide) HR3.out).symm)).kept (grownBy_set _ _ 1 _) (.inr (ownsRow_ne HR7.out (by decide) HR3.out).symm)).kept (grownBy_set _ _ 2 _) (.inr (ownsRow_ne HR7.out (by decide) HR3.out).symm)
          · have hz0 : (fromP ss (impP ss i) nm).length = 0 := by omega
            have HZ := Lib.hid hz0
            have HST : Hid (Left W w3 B L M T M1 M2 v ds ss ∧ (1 ≤ 2 → (ownP ss i nm).length = 0) ∧ (2 ≤ 2 → (fromP ss (impP ss i) nm).length = 0)) := Lib.hid ⟨HL3.out, fun _ => hP.out.2.1 (by omega), fun _ => HZ.out⟩
            gi_wp2
            exact ⟨⟨2, rfl, by omega, HST⟩, by simp only [intOf]; omega⟩
      · obtain rfl : k = 2 := by omega
        have HPX : Hid (Passed ss nm (px.map NdIn.num)) := Lib.hid (by
          rw [HX.out]
          intro m hm
          rcases List.mem_append.1 hm with h | h
          · exact HPS.out m h
          · rw [List.mem_singleton] at h
            subst h
            exact ⟨hP.out.2.1 (by omega), hP.out.2.2 (by omega)⟩)
        gi_wp2
        exact ⟨hP.out.1.turns.keepsFrom (by omega) (by omega), (hP.out.1.turns.cellsM HLW.out.look.memo).mono hWs, HLW.out.trans hP.out.1, HCK.out.trans ((hP.out.1.turns.cellsM HLW.out.look.memo).mono hWs), HPX⟩
  case done =>
    rintro D xs W hD hS ⟨hLW, hck, hps⟩ hK
    have HLW := Lib.hid hLW
    have HCK := Lib.hid hck
    have R7 : Row W (w.heap.size + 1 + 1 + 1) 196 [.int .i64 (-1), .int .i64 0, .slice none 0 0] := hck.block _ _ _ _ (by omega) HFA.out.r7
    have R6 : Row W (w.heap.size + 1 + 1) 196 [.int .i64 0, .int .i64 0, .slice none 0 0] := hck.block _ _ _ _ (by omega) HFA.out.r6
    have HF : Hid (lookF ss (impP ss) nm cl = ⟨-1, 0, []⟩) := Lib.hid (by rw [← hS]; exact passed_all hps.out)
    have c0 := R7.cell (i := 0) (v := .int .i64 (-1)) (by rfl)
    have c1 := R7.cell (i := 1) (v := .int .i64 0) (by rfl)
    have c2 := R7.cell (i := 2) (v := .slice none 0 0) (by rfl)
    have d0 := R6.cell (i := 0) (v := .int .i64 0) (by rfl)
    have d1 := R6.cell (i := 1) (v := .int .i64 0) (by rfl)
    have d2 := R6.cell (i := 2) (v := .slice none 0 0) (by rfl)
    have f0 : ∀ k, W.frozen? ⟨w.heap.size + 1 + 1, k, none⟩ = false := fun k => R6.frozen k
    have HR6 := Lib.hid R6
    clear R7 R6 hLW hck hS hps
    gi_wp2
    rw [HF.out]
    exact find_end HL.out HLW.out HR6.out (World.ownsRow_nil _ _ _ _) (by omega) hK rfl
  case stop =>
    rintro D c pre W hD hSp ⟨rfl, f, hf, hFO⟩ hK
    obtain ⟨u, hr7, hown⟩ := hFO.r7
    have HF : Hid (lookF ss (impP ss) nm cl = f) := Lib.hid (by
      obtain ⟨r, hr⟩ := hSp
      rw [← hr]
      exact hf.out r)
    obtain ⟨ou, cu, rfl⟩ := ownsRow_slice hown
    have c0 := hr7.cell (i := 0) (v := .int .i64 f.scope) (by rfl)
    have c1 := hr7.cell (i := 1) (v := .int .i64 f.way) (by rfl)
    have c2 := hr7.cell (i := 2) (v := .slice ou f.places.length cu) (by rfl)
    have d0 := hFO.r6.cell (i := 0) (v := .int .i64 0) (by rfl)
    have d1 := hFO.r6.cell (i := 1) (v := .int .i64 0) (by rfl)
    have d2 := hFO.r6.cell (i := 2) (v := .slice none 0 0) (by rfl)
    have f0 : ∀ k, W.frozen? ⟨w.heap.size + 1 + 1, k, none⟩ = false := fun k => hFO.r6.frozen k
    have HFO := Lib.hid hFO
    have HOWN := Lib.hid hown
    clear hFO hr7 hown hSp hf
    gi_wp2
    rw [HF.out]
    exact find_end HL.out HFO.out.left HFO.out.r6 HOWN.out (by omega) hK rfl
end Go.Proofs.YtgehpaojbnpbcaaGreatDoor
namespace Go.Proofs.YtgehpaojbnpbcaaGreatDoor
open Go Go.RowKit Go.Maps
attribute [local go_sem ↓] field_kind field_name field_scope
theorem field_places (a b : Int) (oa : Option Addr) (n c : Nat) (w : World) : (Instr.field 196 (.agg #[.int .i64 a, .int .i64 b, .slice oa n c]) 2).run Tryz.prog w = .ok (.slice oa n c) w := by kernel_rfl
attribute [local go_sem ↓] field_places
theorem find_node {ss : List Sc} (hv : Valid ss) {w : World} {B L M T M1 M2 : Nat} {v : Value} {ds : List Nd} (hL : LookW w B L M T M1 M2 v ds ss) {s : Nat} {d : Nd} (hd : ds[s]? = some d) (hT : ∀ m ∈ chainP ss s, TargetC B L M T M1 M2 v ds ss m) (nm : ByteArray) :
    Calls Tryz.prog 116 #[.pointer (some ⟨L, 0, none⟩), .pointer (some ⟨d.blk, 0, none⟩), .string nm] w (FindGot (lookP ss s nm) w B L M T M1 M2 v ds ss) :=
  find_walk hv hL nm (some ⟨d.blk, 0, none⟩) (chainP ss s) (by
    have h1 := chain_bound hv.climbs (s := s) (by have := (List.getElem?_eq_some_iff.1 hd).1; have := hL.tree.hold.len; omega)
    have := hv.count.2
    omega) hT fun Bn w0 w' ht hk hc => outward_stopsC 5 (by omega) Bn B T M1 M2 v ds ss w0 w' ht.tree ht.pars hv.climbs ht.hold.len s d hd hk hc
theorem find_none {ss : List Sc} (hv : Valid ss) {w : World} {B L M T M1 M2 : Nat} {v : Value} {ds : List Nd} (hL : LookW w B L M T M1 M2 v ds ss) (nm : ByteArray) :
    Calls Tryz.prog 116 #[.pointer (some ⟨L, 0, none⟩), .pointer none, .string nm] w (FindGot ⟨-1, 0, []⟩ w B L M T M1 M2 v ds ss) :=
  find_walk hv hL nm none [] (by simp) (fun m hm => by simp at hm) fun Bn w0 w' _ _ hc => outward_none 5 Bn ds w0 w' hc
/-- An item looked up by its place. -/
theorem look_at {w : World} {B T M1 M2 : Nat} {v : Value} {ds : List Nd} {ss : List Sc} (hv : Valid ss) (hT : TreeIs w B T M1 M2 v ds ss) {i j : Nat} {c : Sc} {x : It} (hc : ss[i]? = some c) (hx : c.items[j]? = some x) :
    (Instr.lookup 176 (.map (some M1)) (.agg #[.int .i64 (i : Int), .int .i64 (j : Int)]) false).run Tryz.prog w = .ok (.agg #[.int .i64 x.kind, .string x.name, .int .i64 x.scope]) w := by
  have hb := item_bounds hv (q := (i, j)) ⟨c, x, hc, hx⟩
  dsimp only at hb
  have w1 := wf_small (a := i) (by omega)
  have w2 := wf_small (a := j) (by omega)
  obtain ⟨_, hat⟩ := look_item hv.small w1 w2
  obtain ⟨n1, hm⟩ := hT.items
  obtain ⟨v1, ps, hrun, hv1⟩ := hm.lookup (t := 176) (e := 137) placeLaw Tryz.underlying176 (zeroItem _) (itemR_mk zeroIt) (pl_key w1 w2)
  rw [hat] at hv1
  obtain rfl := itemR_eq hv1
  rw [hrun, itemAtP_nat hc, hx]
  rfl
set_option maxRecDepth 100000 in
set_option maxHeartbeats 4000000 in
theorem meantBy_any {ss : List Sc} (hv : Valid ss) {w : World} {B L M T M1 M2 : Nat} {v : Value} {ds : List Nd} (hL : LookW w B L M T M1 M2 v ds ss) {s j : Nat} {c : Sc} {x : It} (hsc : ss[s]? = some c) (hx : c.items[j]? = some x) (hT : ∀ m, m < s → TargetC B L M T M1 M2 v ds ss m) :
    Calls Tryz.prog 117 #[.pointer (some ⟨L, 0, none⟩), .agg #[.int .i64 (s : Int), .int .i64 (j : Int)]] w (PlsLeft (meantP ss s x.name) w B L M T M1 M2 v ds ss) := by
  have hb0 := (Below.refl w.heap.size w).alloc (Nat.le_refl _) (.cells #[.int .i64 (s : Int), .int .i64 (j : Int)] 59)
  have hL1 := hL.left.step hb0
  have hL2 := hL1.step ((Below.refl _ _).drew)
  have RP := Row.new w [.int .i64 (s : Int), .int .i64 (j : Int)] 59
  have hs : s < ss.length := (List.getElem?_eq_some_iff.1 hsc).1
  have hdl := hL.tree.hold.len
  obtain ⟨d, hd⟩ : ∃ d, ds[s]? = some d := ⟨_, List.getElem?_eq_getElem (by omega)⟩
  obtain ⟨g, cap', rfl, hgB, hg, hslot⟩ := hL2.look.tree.tree.slot (by intro e; rw [e] at hd; simp at hd)
  have s0 := hslot s d hd
  unfold Nd.ptr at s0
  have t0 := hL2.look.tree.tree.box.cell (i := 0) (by rfl)
  have t1 := hL2.look.tree.tree.box.cell (i := 1) (by rfl)
  have l0 := hL2.look.box.cell (i := 0) (by rfl)
  have p0 := cell_drew (RP.cell (i := 0) (by rfl))
  have p1 := cell_drew (RP.cell (i := 1) (by rfl))
  have hrun := look_at hv hL2.look.tree hsc hx
  have h6 := hv.count.2
  have HV := Lib.hid hv
  have HD := Lib.hid hd
  have HT := Lib.hid hT
  have HL0 := Lib.hid hL
  have HL1 := Lib.hid hL1
  have HL2 := Lib.hid hL2
  have hol := ownP_length hv s x.name
  clear hv hL hL1 hL2 hd hT hslot hsc hx RP hb0
  go_enter Tryz.func117, Tryz.ntmps117
  go_wp2
  go_region
  clear s0 t0 t1 l0 p0 p1 hrun
  go_wp2_with fail
  refine (own_any HV.out HL2.out.look.tree HD.out x.name).mono ?_
  rintro e w2 ⟨u, rfl, hu, hb2⟩
  obtain ⟨ou, cu, rfl⟩ := ownsRow_slice hu
  have HL3 := Lib.hid (HL2.out.step hb2)
  have HU := Lib.hid (ownsRow_lower hu HL2.out.turns.size)
  clear hu hb2
  by_cases hpos : 0 < (ownP ss s x.name).length
  · have HE : Hid (meantP ss s x.name = ownP ss s x.name) := Lib.hid (meantP_own (isEmpty_pos hpos))
    go_wp2
    go_ret
    exact ⟨_, rfl, by rw [HE.out]; exact HU.out, HL3.out⟩
  · have HEM := Lib.hid (isEmpty_zero hpos)
    have hz0 : (ownP ss s x.name).length = 0 := by omega
    have n1 := ((HL3.out.look.tree.tree.node s d HD.out).2.cell (i := 1) (v := .pointer d.par) (by rfl))
    rcases par_ptr HL3.out.look.tree.pars HV.out.climbs hdl HD.out with ⟨h1, h2⟩ | ⟨p, d2, h1, hlt, h2, h3⟩
    · have HE : Hid (meantP ss s x.name = []) := Lib.hid (meantP_none HEM.out h1)
      have C := Lib.hid (find_none HV.out HL3.out.look x.name)
      rw [h2] at n1
      clear h1 h2 hpos
      go_wp2_with fail
      refine C.out.mono ?_
      rintro e w3 ⟨u3, rfl, hr3, hl3⟩
      obtain ⟨o3, c3, rfl⟩ := ownsRow_slice hr3
      have HR3 := Lib.hid (ownsRow_lower hr3 HL3.out.turns.size)
      have HL4 := Lib.hid (HL3.out.trans hl3)
      clear hr3 hl3
      go_wp2
      go_ret
      exact ⟨_, rfl, by rw [HE.out]; exact HR3.out, HL4.out⟩
    · have HE : Hid (meantP ss s x.name = (lookP ss p x.name).places) := Lib.hid (meantP_par HEM.out h1)
      have C := Lib.hid (find_node HV.out HL3.out.look h2 (fun m hm => HT.out m (by have := chain_le HV.out.climbs p m hm; omega)) x.name)
      rw [h3] at n1
      clear h1 h2 h3 hpos
      go_wp2_with fail
      refine C.out.mono ?_
      rintro e w3 ⟨u3, rfl, hr3, hl3⟩
      obtain ⟨o3, c3, rfl⟩ := ownsRow_slice hr3
      have HR3 := Lib.hid (ownsRow_lower hr3 HL3.out.turns.size)
      have HL4 := Lib.hid (HL3.out.trans hl3)
      clear hr3 hl3
      go_wp2
      go_ret
      exact ⟨_, rfl, by rw [HE.out]; exact HR3.out, HL4.out⟩
set_option maxRecDepth 100000 in
set_option maxHeartbeats 4000000 in
theorem moduleAlone_any {ss : List Sc} (hv : Valid ss) {w : World} {B T M1 M2 : Nat} {v : Value} {ds : List Nd} (hT : TreeIs w B T M1 M2 v ds ss) {oa : Option Addr} {cap : Nat} {l : List (Int × Int)} (hl : l.length < 1000) (hp : ∀ p ∈ l, IsPlace ss p) (ha : ArgPlaces w oa l) :
    Calls Tryz.prog 140 #[.pointer (some ⟨T, 0, none⟩), .slice oa l.length cap] w fun e w' => e = .returned (.int .i64 (aloneP ss l)) ∧ Below w.heap.size w w' := by
  by_cases h1 : l.length = 1
  · obtain ⟨p, rfl⟩ := List.length_eq_one_iff.1 h1
    obtain ⟨i2, j2, c2, y, rfl, hc2, hy2⟩ := hp p (List.mem_singleton.2 rfl)
    have HA : Hid (aloneP ss [((i2 : Int), (j2 : Int))] = y.scope) := Lib.hid (scopeAt_of hc2 hy2)
    obtain ⟨b5, f5, rfl, hb5, q5⟩ := ha.at (by simp)
    obtain ⟨r0, r1⟩ := q5 0 ((i2 : Int), (j2 : Int)) (by rfl)
    rw [Nat.zero_mul, Nat.add_zero] at r0 r1
    have hTd := hT.below ((Below.refl w.heap.size w).drew)
    have e0 := cell_drew r0
    have e1 := cell_drew r1
    have t1 := hTd.tree.box.cell (i := 1) (by rfl)
    have hrun2 := look_at hv hTd hc2 hy2
    clear hv hT hTd hl hp ha q5 r0 r1 hc2 hy2
    simp only [List.length_singleton] at *
    go_enter Tryz.func140, Tryz.ntmps140
    go_wp2
    go_region
    all_goals go_wp2
    all_goals go_ret
    all_goals exact ⟨by rw [HA.out]; rfl, (Below.refl _ _).drew⟩
  · have HA : Hid (aloneP ss l = -1) := Lib.hid (aloneP_not h1)
    have hne : ((l.length : Int) != 1) = true := by simp; omega
    clear hv hT hp ha h1
    go_enter Tryz.func140, Tryz.ntmps140
    go_wp2
    go_ret
    exact ⟨by rw [HA.out]; rfl, Below.refl _ _⟩
set_option maxRecDepth 100000 in
set_option maxHeartbeats 4000000 in
theorem target_step {ss : List Sc} (hv : Valid ss) {B L M T M1 M2 : Nat} {v : Value} {ds : List Nd} {s : Nat} (hT : ∀ m, m < s → TargetC B L M T M1 M2 v ds ss m) : TargetC B L M T M1 M2 v ds ss s := by
  intro j hq w hL
  obtain ⟨c, x, hsc, hx⟩ := hq
  dsimp only at hsc hx
  have HQ : Hid (IsItem ss (s, j)) := Lib.hid ⟨c, x, hsc, hx⟩
  have HTGT := Lib.hid (tgt_of hsc hx)
  have hb0 := (Below.refl w.heap.size w).alloc (Nat.le_refl _) (.cells #[.int .i64 (s : Int), .int .i64 (j : Int)] 59)
  have hL1 := hL.left.step hb0
  have hL2 := hL1.step ((Below.refl _ _).drew)
  have RP := Row.new w [.int .i64 (s : Int), .int .i64 (j : Int)] 59
  have l1 := hL2.look.box.cell (i := 1) (by rfl)
  have p0 := cell_drew (RP.cell (i := 0) (by rfl))
  have p1 := cell_drew (RP.cell (i := 1) (by rfl))
  have hlook := hL2.look.memo.look hv HQ.out
  dsimp only at hlook
  have HV := Lib.hid hv
  have HT := Lib.hid hT
  have HL2 := Lib.hid hL2
  have HRP := Lib.hid RP
  have HSX := Lib.hid (And.intro hsc hx)
  clear hv hL hL1 hL2 hT hsc hx RP hb0
  rcases hlook with hrun | ⟨-, -, -, -, -, z, hrun⟩
  · generalize hz : tgt ss (s, j) = z at hrun
    clear hz
    go_enter Tryz.func138, Tryz.ntmps138
    go_wp2
    go_region
    all_goals go_wp2
    all_goals go_ret
    all_goals exact ⟨rfl, HL2.out⟩
  · go_enter Tryz.func138, Tryz.ntmps138
    go_wp2
    go_region
    clear hrun l1 p0 p1
    have hW0 : Row (w.alloc (.cells #[.int .i64 (s : Int), .int .i64 (j : Int)] 59)).drew w.heap.size 59 [.int .i64 (s : Int), .int .i64 (j : Int)] := HRP.out
    have HTA : Hid (tgt ss (s, j) = aloneP ss (meantP ss s x.name)) := Lib.hid (by rw [HTGT.out, targetP_alone])
    have HML : Hid ((meantP ss s x.name).length < 1000) := Lib.hid (by have := meantP_short HV.out s x.name; omega)
    generalize (w.alloc (.cells #[.int .i64 (s : Int), .int .i64 (j : Int)] 59)).drew = W at hW0 HL2 ⊢
    have HRP2 : Hid (Row W w.heap.size 59 [.int .i64 (s : Int), .int .i64 (j : Int)]) := Lib.hid hW0
    have HLd := Lib.hid (HL2.out.step ((Below.refl _ _).drew))
    have p0 := HRP2.out.cell (i := 0) (by rfl)
    have p1 := HRP2.out.cell (i := 1) (by rfl)
    have l0 := HL2.out.look.box.cell (i := 0) (by rfl)
    have C := Lib.hid (meantBy_any HV.out HLd.out.look HSX.out.1 HSX.out.2 HT.out)
    clear hW0
    go_wp2
    go_cut [7] (fun s7 wx => s7 = .int .i64 (tgt ss (s, j)) ∧ Left w wx B L M T M1 M2 v ds ss ∧ Row wx w.heap.size 59 [.int .i64 (s : Int), .int .i64 (j : Int)])
    case first =>
      go_region_held3 (fun w' => w'.cell? ⟨L, 0, none⟩ = some (.pointer (some ⟨T, 0, none⟩)) ∧ w'.cell? ⟨w.heap.size, 0, none⟩ = some (.int .i64 (s : Int)) ∧ w'.cell? ⟨w.heap.size, 1, none⟩ = some (.int .i64 (j : Int)))
        (first | exact ⟨l0, p0, p1⟩ | exact ⟨cell_drew l0, cell_drew p0, cell_drew p1⟩ | exact ⟨hl4.look.box.cell (i := 0) (by rfl), hp4.cell (i := 0) (by rfl), hp4.cell (i := 1) (by rfl)⟩ | exact ⟨cell_grow hb5 (hl4.look.box.cell (i := 0) (by rfl)), cell_grow hb5 (hp4.cell (i := 0) (by rfl)), cell_grow hb5 (hp4.cell (i := 1) (by rfl))⟩)
        (first | (go_at_call 117; refine C.out.mono ?_; rintro e w4 ⟨u4, rfl, hr4, hl4⟩; obtain ⟨o4, c4, rfl, harg4⟩ := argPlaces_of_owns hr4; have hp4 : Row w4 w.heap.size 59 [.int .i64 (s : Int), .int .i64 (j : Int)] := (hl4.turns.cellsM HLd.out.look.memo).block _ _ _ _ (by exact HRP2.out.lt) (by exact HRP2.out)) | (go_at_call 140; refine (moduleAlone_any HV.out hl4.look.tree HML.out (fun p hp => meant_isPlace p hp) harg4).mono ?_; rintro e w5 ⟨rfl, hb5⟩))
      all_goals go_wp2
      all_goals go_meet
      all_goals exact ⟨by rw [HTA.out], HLd.out.trans (hl4.step hb5), hp4.below hb5 hp4.lt⟩
    case rest =>
      obtain ⟨rfl, hl, hrow⟩ := hcut
      obtain ⟨w5, hrun5, hmemo5, hgrow5⟩ := memo_put HV.out (hl.look.below ((Below.refl _ _).drew)).memo HQ.out (z := tgt ss (s, j)) rfl
      dsimp only at hrun5
      have l5 := cell_drew (hl.look.box.cell (i := 1) (by rfl))
      have p5 := cell_drew (hrow.cell (i := 0) (by rfl))
      have p6 := cell_drew (hrow.cell (i := 1) (by rfl))
      have HL5 : Hid (Left w w5 B L M T M1 M2 v ds ss) := Lib.hid (by
        have h1 := hl.step ((Below.refl _ _).drew)
        have ht := Turns.of_grown (M1 := M) (M2 := M) hgrow5 (.inl rfl)
        exact ⟨h1.look.turned ht hmemo5, h1.turns.trans ht⟩)
      clear hmemo5 hgrow5 hl hrow p0 p1 l0
      go_wp2
      go_region
      all_goals go_wp2
      all_goals go_ret
      all_goals exact ⟨rfl, HL5.out⟩
theorem target_any {ss : List Sc} (hv : Valid ss) {B L M T M1 M2 : Nat} {v : Value} {ds : List Nd} (s : Nat) : TargetC B L M T M1 M2 v ds ss s := by
  induction s using Nat.strongRecOn with
  | _ s ih => exact target_step hv ih
end Go.Proofs.YtgehpaojbnpbcaaGreatDoor
namespace Go.Proofs.YtgehpaojbnpbcaaGreatDoor
open Go Go.RowKit Go.Maps
attribute [local go_sem] Oper.semAt_some
/-- One place appended, as the operation runs it where no order is drawn. -/
theorem append_place0 {W : World} {base k : Nat} {v : Value} {xs : List Value} (hrow : W.ownsRow base 59 2 v k xs) (x y : Int) (hk : k < 1000000) (hbase : base ≤ W.heap.size) (ty : TypeId) :
    ∃ v' w', (Builtin.append_ #[36, 36] ty #[v, .slice (some ⟨W.heap.size, 0, none⟩) 1 1]).run Tryz.prog (W.alloc (.cells #[.int .i64 x, .int .i64 y] 59)) = .ok v' w' ∧ w'.ownsRow base 59 2 v' (k + 1) (xs ++ [.int .i64 x, .int .i64 y]) ∧ (W.alloc (.cells #[.int .i64 x, .int .i64 y] 59)).grownBy w' v.ownBlock := by
  obtain ⟨i0, hi, hz0, hz1, hz2⟩ := info_parts infoPl
  obtain ⟨v', w', hrun, h2, h3, _, _⟩ := run_append_own_at (P := Tryz.prog) (W.alloc (.cells #[.int .i64 x, .int .i64 y] 59)) base 36 ty 59 i0 (.agg #[.int .i64 0, .int .i64 0]) 2 16 Tryz.underlying36 hi hz0 hz1 hz2 rfl (by decide) v k xs (hrow.alloc _) ⟨W.heap.size, 0, none⟩ 1 1 [.int .i64 x, .int .i64 y] rfl (cells_new2 W _ _ _)
    (by intro u hu; simp only [List.mem_cons, List.mem_nil_iff, or_false] at hu; rcases hu with rfl | rfl <;> rfl) (by unfold maxLen; omega) (by omega) (by show base ≤ (W.alloc _).heap.size; simp; omega)
  exact ⟨v', w', hrun, h2, h3⟩
def elPl {ss : List Sc} (kind : Int) (pre : List (El ss)) : List (Int × Int) := plsOf kind (pre.map Subtype.val)
end Go.Proofs.YtgehpaojbnpbcaaGreatDoor
namespace Go.Proofs.YtgehpaojbnpbcaaGreatDoor
open Go Go.RowKit Go.Maps
attribute [local go_sem] Oper.semAt_some
attribute [local go_sem ↓] field_kind field_name field_scope field_places
theorem cell_kept {w w' : World} {b o : Nat} {v : Value} (hk : CellsKept w.heap.size w w') (h : w.cell? ⟨b, o, none⟩ = some v) : w'.cell? ⟨b, o, none⟩ = some v := hk.cell (World.block_lt_of_cell? _ _ h) h
theorem ownsRow_one {W : World} {base : Nat} (hb : base ≤ W.heap.size) (i j : Int) : (W.alloc (.cells #[.int .i64 i, .int .i64 j] 59)).ownsRow base 59 2 (.slice (some ⟨W.heap.size, 0, none⟩) 1 1) 1 [.int .i64 i, .int .i64 j] :=
  ⟨by simp, .inr ⟨_, 1, _, rfl, hb, heap_alloc_new W _, Nat.le_refl _, by unfold maxLen; omega, by simp, by simp⟩⟩
set_option maxRecDepth 100000 in
set_option maxHeartbeats 4000000 in
theorem meaning_any {ss : List Sc} (hv : Valid ss) {w : World} {B L M T M1 M2 : Nat} {v : Value} {ds : List Nd} (hL : LookW w B L M T M1 M2 v ds ss) {i j : Nat} {x : It} (hq : (i, j, x) ∈ placed 0 ss) :
    Calls Tryz.prog 94 #[.pointer (some ⟨L, 0, none⟩), .agg #[.int .i64 (i : Int), .int .i64 (j : Int)], .agg #[.int .i64 x.kind, .string x.name, .int .i64 x.scope]] w (PlsLeft (meanIt ss (i, j, x)) w B L M T M1 M2 v ds ss) := by
  obtain ⟨c, hsc, hx⟩ := placed_at hq
  dsimp only at hsc hx
  have hb0 : Below w.heap.size w ((w.alloc (.cells #[.int .i64 (i : Int), .int .i64 (j : Int)] 59)).alloc (.cells #[.int .i64 x.kind, .string x.name, .int .i64 x.scope] 137)) := ((Below.refl _ _).alloc (Nat.le_refl _) _).alloc (by simp) _
  have HL1 := Lib.hid (hL.left.step hb0)
  have HS1 := Lib.hid hb0.size
  have RP := Lib.hid ((Row.new w [.int .i64 (i : Int), .int .i64 (j : Int)] 59).alloc (.cells #[.int .i64 x.kind, .string x.name, .int .i64 x.scope] 137))
  have RX : Hid (Row ((w.alloc (.cells #[.int .i64 (i : Int), .int .i64 (j : Int)] 59)).alloc (.cells #[.int .i64 x.kind, .string x.name, .int .i64 x.scope] 137)) (w.heap.size + 1) 137 [.int .i64 x.kind, .string x.name, .int .i64 x.scope]) := Lib.hid (by
    have := Row.new (w.alloc (.cells #[.int .i64 (i : Int), .int .i64 (j : Int)] 59)) [.int .i64 x.kind, .string x.name, .int .i64 x.scope] 137
    rw [World.size_alloc] at this
    exact this)
  have hsl : i < ss.length := (List.getElem?_eq_some_iff.1 hsc).1
  have hdl := hL.tree.hold.len
  obtain ⟨d, hd⟩ : ∃ d, ds[i]? = some d := ⟨_, List.getElem?_eq_getElem (by omega)⟩
  have HV := Lib.hid hv
  have HSX := Lib.hid (And.intro hsc hx)
  have HD := Lib.hid hd
  have x0 := RX.out.cell (i := 0) (by rfl)
  have x1 := RX.out.cell (i := 1) (by rfl)
  have p0 := RP.out.cell (i := 0) (by rfl)
  have p1 := RP.out.cell (i := 1) (by rfl)
  clear hv hL hq hsc hx hb0
  by_cases hk2 : x.kind = 2
  · have hq2 : (x.kind == 2) = true := by simpa using hk2
    have HE : Hid (meanIt ss (i, j, x) = (lookP ss i x.name).places) := Lib.hid (by unfold meanIt; rw [if_pos hk2])
    obtain ⟨g, cap', rfl, hgB, hg, hslot⟩ := HL1.out.look.tree.tree.slot (by intro e; rw [e] at hd; simp at hd)
    have s0 := hslot i d hd
    unfold Nd.ptr at s0
    have t0 := HL1.out.look.tree.tree.box.cell (i := 0) (by rfl)
    have l0 := HL1.out.look.box.cell (i := 0) (by rfl)
    have HLd := Lib.hid (HL1.out.step ((Below.refl _ _).drew))
    have C := Lib.hid (find_node HV.out HLd.out.look HD.out (fun m _ => target_any HV.out m) x.name)
    have hi0 : (0 : Int) ≤ (i : Int) := by omega
    have hi1 : (i : Int) < (ds.length : Int) := by omega
    clear hk2 hslot hd
    go_enter Tryz.func94, Tryz.ntmps94
    go_wp2
    generalize (w.alloc (.cells #[.int .i64 (i : Int), .int .i64 (j : Int)] 59)).alloc (.cells #[.int .i64 x.kind, .string x.name, .int .i64 x.scope] 137) = W at *
    go_region_held3 (fun w' => w'.cell? ⟨L, 0, none⟩ = some (.pointer (some ⟨T, 0, none⟩)) ∧ w'.cell? ⟨T, 0, none⟩ = some (.slice (some ⟨g, 0, none⟩) ds.length cap') ∧ w'.cell? ⟨g, i, none⟩ = some (.pointer (some ⟨d.blk, 0, none⟩)) ∧ w'.cell? ⟨w.heap.size, 0, none⟩ = some (.int .i64 (i : Int)) ∧ w'.cell? ⟨w.heap.size + 1, 1, none⟩ = some (.string x.name))
      (first | exact ⟨l0, t0, s0, p0, x1⟩ | exact ⟨cell_drew l0, cell_drew t0, cell_drew s0, cell_drew p0, cell_drew x1⟩ | exact ⟨cell_kept hc4 (cell_drew l0), cell_kept hc4 (cell_drew t0), cell_kept hc4 (cell_drew s0), cell_kept hc4 (cell_drew p0), cell_kept hc4 (cell_drew x1)⟩)
      (first | (go_at_call 116; refine C.out.mono ?_; rintro e w4 ⟨u4, rfl, hr4, hl4⟩; obtain ⟨o4, c4, rfl⟩ := ownsRow_slice hr4; have hc4 := hl4.turns.cellsM HLd.out.look.memo))
    all_goals go_wp2
    all_goals go_ret
    all_goals exact ⟨_, rfl, by rw [HE.out]; exact ownsRow_lower hr4 (Nat.le_trans HLd.out.turns.size (Nat.le_refl _)), HLd.out.trans hl4⟩
  · have hq2 : (x.kind == 2) = false := by simpa using hk2
    by_cases hk3 : x.kind = 3
    · have hq3 : (x.kind == 3) = true := by simpa using hk3
      have HE : Hid (meanIt ss (i, j, x) = meantP ss i x.name) := Lib.hid (by unfold meanIt; rw [if_neg hk2, if_pos hk3])
      have C := Lib.hid (meantBy_any HV.out HL1.out.look HSX.out.1 HSX.out.2 (fun m _ => target_any HV.out m))
      clear hk2 hk3 hd
      go_enter Tryz.func94, Tryz.ntmps94
      go_wp2_with fail
      refine C.out.mono ?_
      rintro e w4 ⟨u4, rfl, hr4, hl4⟩
      have HR4 := Lib.hid (ownsRow_lower hr4 HS1.out)
      have HL4 := Lib.hid (HL1.out.trans hl4)
      clear hr4 hl4
      go_wp2
      go_ret
      exact ⟨_, rfl, by rw [HE.out]; exact HR4.out, HL4.out⟩
    · have hq3 : (x.kind == 3) = false := by simpa using hk3
      have HE : Hid (meanIt ss (i, j, x) = [((i : Int), (j : Int))]) := Lib.hid (by unfold meanIt; rw [if_neg hk2, if_neg hk3])
      clear hk2 hk3 hd
      have hO := ownsRow_one (W := (w.alloc (.cells #[.int .i64 (i : Int), .int .i64 (j : Int)] 59)).alloc (.cells #[.int .i64 x.kind, .string x.name, .int .i64 x.scope] 137)) HS1.out (i : Int) (j : Int)
      rw [World.size_alloc, World.size_alloc] at hO
      have HO := Lib.hid hO
      clear hO
      go_enter Tryz.func94, Tryz.ntmps94
      go_wp2
      go_ret
      exact ⟨_, rfl, by rw [HE.out]; exact HO.out, HL1.out.step ((Below.refl _ _).alloc (Nat.le_refl _) _)⟩
theorem TreeIs.kept2 {w w' : World} {B T M1 M2 : Nat} {v : Value} {ds : List Nd} {ss : List Sc} (h : TreeIs w B T M1 M2 v ds ss) (hk : CellsKept w.heap.size w w') (h1 : w'.heap[M1]? = w.heap[M1]?) (h2 : w'.heap[M2]? = w.heap[M2]?) : TreeIs w' B T M1 M2 v ds ss where
  tree := h.tree.kept hk (Nat.le_refl _)
  hold := h.hold.keptC hk (Nat.le_refl _)
  pars := h.pars
  items := by obtain ⟨n, hm⟩ := h.items; exact ⟨n, ownsMap_same hm h1⟩
  mods := by obtain ⟨n, hm⟩ := h.mods; exact ⟨n, ownsMap_same hm h2⟩
  low1 := h.low1
  low2 := h.low2
theorem Row.cells {w w' : World} {g : Nat} {t : TypeId} {vs : List Value} (h : Row w g t vs) (hk : CellsKept w.heap.size w w') : Row w' g t vs := hk.block g _ _ _ h.lt h
theorem LookW.kept2 {w w' : World} {B L M T M1 M2 : Nat} {v : Value} {ds : List Nd} {ss : List Sc} (h : LookW w B L M T M1 M2 v ds ss) (hk : CellsKept w.heap.size w w') (h1 : w'.heap[M1]? = w.heap[M1]?) (h2 : w'.heap[M2]? = w.heap[M2]?) (hm : Memo w' M ss) : LookW w' B L M T M1 M2 v ds ss :=
  ⟨h.tree.kept2 hk h1 h2, h.box.cells hk, hm, h.ne1, h.ne2⟩
theorem ResW.kept2 {w w' : World} {B R T M1 M2 MR : Nat} {v : Value} {ds : List Nd} {ss : List Sc} {l : List Ent} (h : ResW w B R T M1 M2 MR v ds ss l) (hk : CellsKept w.heap.size w w') (h1 : w'.heap[M1]? = w.heap[M1]?) (h2 : w'.heap[M2]? = w.heap[M2]?) (h3 : w'.heap[MR]? = w.heap[MR]?) : ResW w' B R T M1 M2 MR v ds ss l :=
  ⟨h.tree.kept2 hk h1 h2, h.box.cells hk, h.mean.kept hk h3, h.full⟩
/-- What resolutionOf answers. -/
def ResGot (ss : List Sc) (w : World) (e : Ending) (w' : World) : Prop :=
  (¬ Valid ss ∧ (∃ tp p, e = .returned (.tuple #[.pointer none, .iface tp p])) ∧ Below w.heap.size w w') ∨
  (Valid ss ∧ ∃ R T M1 M2 MR v ds l, e = .returned (.tuple #[.pointer (some ⟨R, 0, none⟩), .nilIface]) ∧ Below w.heap.size w w' ∧ ResW w' w.heap.size R T M1 M2 MR v ds ss l)
/-- What holds when some meanings are laid. -/
structure ResRun (W0 : World) (B M MR : Nat) (ss : List Sc) (pre : List (Nat × Nat × It)) (W : World) : Prop where
  turns : Turns W0 W M MR
  memo : Memo W M ss
  mean : ∃ l : List Ent, l.map Prod.fst = pre ∧ MeanW W B MR ss l
theorem cells_of_grown {A B : World} {row : Option Nat} (hg : A.grownBy B row) (hr : ∀ r, row = some r → ∃ o : Obj, A.heap[r]? = some o ∧ o.isCells = false) : CellsKept A.heap.size A B :=
  ⟨hg.size, fun g vs t fr _ hh => (hg.block g (Array.getElem?_eq_some_iff.1 hh).1 (fun e => by obtain ⟨o, ho, hc⟩ := hr g e.symm; rw [hh] at ho; cases ho; cases hc)).trans hh⟩
theorem resRun_own {W0 : World} {B M MR n : Nat} {ss : List Sc} {α : Type} (f : α → List (Nat × Nat × It)) (hn : W0.heap.size ≤ n) (h1 : M < n) (h2 : MR < n) : OwnFrom n (fun (pre : α) W => ResRun W0 B M MR ss (f pre) W) :=
  fun _ A _ _ hs hg hr => by
    obtain ⟨l, hl, hm⟩ := hs.mean
    exact ⟨hs.turns.grown hg hn (fun r e => (hr r e).1), hs.memo.same (hg.block M hs.memo.lt (fun e => by have := (hr _ e.symm).1; omega)), l, hl, hm.kept (cells_of_grown hg fun r e => (hr r e).2) (hg.block MR hm.lt (fun e => by have := (hr _ e.symm).1; omega))⟩
theorem ResRun.cells {W0 W : World} {B M MR : Nat} {ss : List Sc} {pre : List (Nat × Nat × It)} (h : ResRun W0 B M MR ss pre W) (m1 : Memo W0 M ss) {l0 : List Ent} (m2 : MeanW W0 B MR ss l0) : CellsKept W0.heap.size W0 W := by
  obtain ⟨l, _, _, m⟩ := m1
  exact h.turns.cells m m2.map
theorem mean_nil {w : World} {B MR : Nat} {ss : List Sc} (h : w.ownsMap Tryz.prog 59 sliceR MR 0 (.map [])) : MeanW w B MR ss [] := ⟨h, fun e he => by cases he⟩
theorem hT1 {w : World} {B T M1 M2 : Nat} {v : Value} {ds : List Nd} {ss : List Sc} (h : TreeIs w B T M1 M2 v ds ss) : M1 < w.heap.size ∧ M2 < w.heap.size := by
  obtain ⟨_, h1⟩ := h.items
  obtain ⟨_, h2⟩ := h.mods
  exact ⟨h1.lt, h2.lt⟩
set_option maxRecDepth 100000 in
set_option maxHeartbeats 8000000 in
theorem resolutionOf_any (ss : List Sc) (hF : Fair ss) (oa : Option Addr) (cap : Nat) (w : World) (hc : HoldsScopes w oa ss) (hE : TreeErrs w) :
    Calls Tryz.prog 62 #[.agg #[.slice oa ss.length cap]] w (ResGot ss w) := by
  have hb0 := (Below.refl w.heap.size w).alloc (Nat.le_refl _) (.cells #[.slice oa ss.length cap] 28)
  have C := Lib.hid ((callsIn_wide (n := 5)).2 (hF.tree oa cap _ (hc.below hb0 (Nat.le_refl _)) (hE.below hb0 hE.size)))
  have HB0 := Lib.hid hb0
  have hmm := @run_makeMap Tryz.prog
  clear hF hc hE hb0
  refine (callsIn_wide (n := 6)).1 ?_
  refine callsIn_of_wp_marks Tryz.func62 rfl trivial ?_ rfl
  simp only [Tryz.ntmps62, List.size_toArray, List.length_cons, List.length_nil, Nat.reduceAdd, Nat.reduceSub, Array.replicate_succ, Array.replicate_zero, List.push_toArray, List.append_toArray, List.nil_append, List.cons_append]
  gi_wp2_with fail
  refine ⟨trivial, ?_⟩
  gi_at_call 86
  refine C.out.mono ?_
  rintro e w1 (⟨hv, ⟨tp, p, rfl⟩, hb⟩ | ⟨hv, T, M1, M2, v, ds, rfl, hb, hT⟩)
  · have HB := Lib.hid (HB0.out.trans (hb.mono HB0.out.size))
    have HV := Lib.hid hv
    clear hv hb hmm
    gi_wp2
    exact ⟨_, results_tmp2 rfl _ _ _, .inl ⟨HV.out, ⟨tp, p, rfl⟩, HB.out⟩⟩
  · have HB := Lib.hid (HB0.out.trans (hb.mono HB0.out.size))
    have HV := Lib.hid hv
    have HT := Lib.hid hT
    clear hv hb hT
    gi_wp2_with fail
    refine ⟨trivial, ?_⟩
    gi_at_call 92
    refine ((callsIn_wide (n := 5)).2 (lookupIn_any T _)).mono ?_
    rintro e w3 ⟨rfl, hR3, hM3, hb3⟩
    simp only [World.size_alloc] at hR3 hM3 hb3 ⊢
    have hRS : Row w3 (w1.heap.size + 1) 127 [.pointer (some ⟨T, 0, none⟩), .map (some w1.heap.size)] := by
      have h := (Row.new (w1.alloc (.map #[] 0)) [.pointer (some ⟨T, 0, none⟩), .map (some w1.heap.size)] 127).alloc (.cells #[.pointer (some ⟨w1.heap.size + 1, 0, none⟩)] 102)
      rw [World.size_alloc] at h
      exact h.below hb3 (by omega)
    have hBR : Row w3 (w1.heap.size + 1 + 1) 102 [.pointer (some ⟨w1.heap.size + 1, 0, none⟩)] := by
      have h := Row.new ((w1.alloc (.map #[] 0)).alloc (.cells #[.pointer (some ⟨T, 0, none⟩), .map (some w1.heap.size)] 127)) [.pointer (some ⟨w1.heap.size + 1, 0, none⟩)] 102
      rw [World.size_alloc, World.size_alloc] at h
      exact h.below hb3 (by omega)
    have hMW : MeanW w3 w1.heap.size w1.heap.size ss [] := by
      have h := ((World.ownsMap_made w1 Tryz.prog 59 sliceR).alloc (.cells #[.pointer (some ⟨T, 0, none⟩), .map (some w1.heap.size)] 127)).alloc (.cells #[.pointer (some ⟨w1.heap.size + 1, 0, none⟩)] 102)
      exact (mean_nil h).below (by simp only [World.size_alloc]; exact hb3)
    have hbA : Below w1.heap.size w1 w3 := ((((Below.refl w1.heap.size w1).alloc (Nat.le_refl _) (.map #[] 0)).alloc (by simp) (.cells #[.pointer (some ⟨T, 0, none⟩), .map (some w1.heap.size)] 127)).alloc (by simp; omega) (.cells #[.pointer (some ⟨w1.heap.size + 1, 0, none⟩)] 102)).trans (hb3.mono (by omega))
    have hs3 := hR3.lt
    have hM1 := hT1 HT.out
    have hLW : LookW w3 (w.heap.size + 1) (w1.heap.size + 1 + 1 + 1 + 1) (w1.heap.size + 1 + 1 + 1) T M1 M2 v ds ss := by
      have h := HT.out
      rw [World.size_alloc] at h
      exact LookW.mk (h.below hbA) hR3 (memo_nil hM3) (by omega) (by omega)
    have HRS := Lib.hid hRS
    have HBR := Lib.hid hBR
    have HMW := Lib.hid hMW
    have HBA := Lib.hid hbA
    have HLW := Lib.hid hLW
    have HM1 := Lib.hid hM1
    have HS3 := Lib.hid hs3
    clear hR3 hM3 hb3 hRS hBR hMW hbA hLW hM1 hs3 hmm
    gi_wp2_with fail
    refine ⟨trivial, ?_⟩
    gi_at_call 93
    refine ((callsIn_wide (n := 5)).2 (all_any T _)).mono ?_
    rintro e w5 ⟨rfl, rfl⟩
    have bL0 := Boxed.new w3 147 (.pointer (some ⟨w1.heap.size + 1 + 1 + 1 + 1, 0, none⟩))
    have RL0 := (Row.new w3 [.pointer (some ⟨w1.heap.size + 1 + 1 + 1 + 1, 0, none⟩)] 147).alloc (.cells #[.pointer (some ⟨T, 0, none⟩)] 124)
    have bN := Boxed.new (w3.alloc (.cells #[.pointer (some ⟨w1.heap.size + 1 + 1 + 1 + 1, 0, none⟩)] 147)) 124 (.pointer (some ⟨T, 0, none⟩))
    rw [World.size_alloc] at bN
    have hB35 : Below w3.heap.size w3 ((w3.alloc (.cells #[.pointer (some ⟨w1.heap.size + 1 + 1 + 1 + 1, 0, none⟩)] 147)).alloc (.cells #[.pointer (some ⟨T, 0, none⟩)] 124)) := ((Below.refl _ _).alloc (Nat.le_refl _) _).alloc (by simp) _
    simp only [World.size_alloc]
    have hsz : ((w3.alloc (.cells #[.pointer (some ⟨w1.heap.size + 1 + 1 + 1 + 1, 0, none⟩)] 147)).alloc (.cells #[.pointer (some ⟨T, 0, none⟩)] 124)).heap.size = w3.heap.size + 1 + 1 := by simp
    gi_wp2
    generalize hW0 : (w3.alloc (.cells #[.pointer (some ⟨w1.heap.size + 1 + 1 + 1 + 1, 0, none⟩)] 147)).alloc (.cells #[.pointer (some ⟨T, 0, none⟩)] 124) = W0 at RL0 bN hB35 hsz ⊢
    clear hW0 bL0
    have HRL := Lib.hid RL0
    have HBN := Lib.hid bN.cell
    have HB35 := Lib.hid hB35
    have HLW0 := Lib.hid (HLW.out.below hB35)
    have HMW0 := Lib.hid (HMW.out.below hB35)
    have hBx := HBA.out.trans (hB35.mono HBA.out.size)
    have HBX := Lib.hid hBx
    have hsm := HV.out.small
    have h30 := placed_bound 0 ss 6 5 HV.out.count.2 HV.out.five
    clear RL0 bN hB35
    refine wpIn_rangeFunc_ownH rfl (by omega) (gf := 115) (lb := #[.pointer (some ⟨w3.heap.size + 1, 0, none⟩)]) rfl trivial (enters_of Tryz.func115 (by kernel_rfl) rfl)
      (all_stops 5 (by omega) (w3.heap.size + 1) _ T M1 M2 v ds ss w1 _ HT.out.tree HT.out.hold (HT.out.ne HV.out) hsm.len hsm.items (.of_below hBx) HBN.out) CellsKept.trans (fun W l o o' _ h1 h2 h3 => cellsKept_b (w := w1) W l o o' (by have := HS3.out; simp at *; omega) h1 h2 h3) (Below.refl _ _) (fun _ => rfl)
      (fun pre W => ResRun W0 w1.heap.size (w1.heap.size + 1 + 1 + 1) w1.heap.size ss (pre.map Subtype.val) W)
      (fun _ _ _ => False)
      (resRun_own _ (Nat.le_refl _) (by have := HS3.out; omega) (by have := HS3.out; omega))
      (fun _ _ _ _ _ hs _ _ => hs)
      ⟨Turns.refl _ _ _, HLW0.out.memo, [], rfl, HMW0.out⟩
      (fun x a' W => ∃ Bp Bx, Row W Bp 59 [.int .i64 (x.1.1 : Int), .int .i64 (x.1.2.1 : Int)] ∧ Row W Bx 137 [.int .i64 x.1.2.2.kind, .string x.1.2.2.name, .int .i64 x.1.2.2.scope] ∧
        a' = { tmps := #[.agg #[.slice oa ss.length cap], .pointer (some ⟨w.heap.size, 0, none⟩), .pointer none, .nilIface, .pointer (some ⟨T, 0, none⟩), .nilIface, .pointer (some ⟨w1.heap.size + 1 + 1, 0, none⟩), .pointer (some ⟨w3.heap.size, 0, none⟩), .pointer (some ⟨Bp, 0, none⟩), .pointer (some ⟨Bx, 0, none⟩), .tuple #[.pointer (some ⟨T, 0, none⟩), .nilIface], .agg #[.slice oa ss.length cap], .tuple #[.pointer (some ⟨T, 0, none⟩), .nilIface], .pointer (some ⟨T, 0, none⟩), .nilIface, .nilIface, .bool false, undef, .pointer (some ⟨T, 0, none⟩), .map (some w1.heap.size), .agg #[.pointer (some ⟨T, 0, none⟩), .map (some w1.heap.size)], .pointer (some ⟨w1.heap.size + 1, 0, none⟩), .pointer (some ⟨T, 0, none⟩), .pointer (some ⟨w1.heap.size + 1 + 1 + 1 + 1, 0, none⟩), .pointer (some ⟨T, 0, none⟩), .func (.func 115) #[] #[.pointer (some ⟨w3.heap.size + 1, 0, none⟩)], .agg #[.int .i64 (x.1.1 : Int), .int .i64 (x.1.2.1 : Int)], .agg #[.int .i64 x.1.2.2.kind, .string x.1.2.2.name, .int .i64 x.1.2.2.scope], undef, undef, undef, undef, undef, undef, undef, undef, undef, undef], defers := [] })
      (fun x a' _ X Y row hs hg hr => by obtain ⟨Bp, Bx, h1, h2, h3⟩ := hs; exact ⟨Bp, Bx, h1.kept_cells hg (fun r e => (hr r e).2), h2.kept_cells hg (fun r e => (hr r e).2), h3⟩)
      ?assign ?body ?done ?stop
    case assign =>
      rintro l pre x W K hi hK
      dsimp only [elArgs]
      gi_wp2
      have ha : Below W.heap.size W ((W.alloc (.cells #[.int .i64 (x.1.1 : Int), .int .i64 (x.1.2.1 : Int)] 59)).alloc (.cells #[.int .i64 x.1.2.2.kind, .string x.1.2.2.name, .int .i64 x.1.2.2.scope] 137)) := ((Below.refl _ _).alloc (Nat.le_refl _) _).alloc (by simp) _
      obtain ⟨le, hle, hme⟩ := hi.mean
      refine hK _ _ (((KeepsOthers.alloc _ _).trans (KeepsOthers.alloc _ _)).from _) ((CellsKept.of_below ha).mono (Nat.le_trans HBX.out.size hi.turns.size)) ⟨hi.turns.trans (.of_below ha), hi.memo.below ha, le, hle, hme.below ha⟩ ⟨W.heap.size, W.heap.size + 1, ?_, ?_, rfl⟩
      · exact (Row.new W [.int .i64 (x.1.1 : Int), .int .i64 (x.1.2.1 : Int)] 59).alloc _
      · have := Row.new (W.alloc (.cells #[.int .i64 (x.1.1 : Int), .int .i64 (x.1.2.1 : Int)] 59)) [.int .i64 x.1.2.2.kind, .string x.1.2.2.name, .int .i64 x.1.2.2.scope] 137
        rw [World.size_alloc] at this
        exact this
    case body =>
      rintro l pre x a' W hl _ hi ⟨Bp, Bx, hp, hx, rfl⟩ hlen
      obtain ⟨⟨i, j, it⟩, hmem⟩ := x
      dsimp only at hp hx ⊢
      have hck := hi.cells HLW0.out.memo HMW0.out
      have hw1 := HBX.out.size
      have hM := HM1.out
      have h3 := HS3.out
      have hLWW := HLW0.out.kept2 hck (hi.turns.rest M1 (by omega) (by omega) (by omega)) (hi.turns.rest M2 (by omega) (by omega) (by omega)) hi.memo
      have c0 := ((HRS.out.below HB35.out HRS.out.lt).cells hck).cell (i := 1) (by rfl)
      have c1 := ((HBR.out.below HB35.out HBR.out.lt).cells hck).cell (i := 0) (by rfl)
      have c2 := (HRL.out.cells hck).cell (i := 0) (by rfl)
      have p0 := hp.cell (i := 0) (by rfl)
      have p1 := hp.cell (i := 1) (by rfl)
      have x0 := hx.cell (i := 0) (by rfl)
      have x1 := hx.cell (i := 1) (by rfl)
      have x2 := hx.cell (i := 2) (by rfl)
      have C2 := Lib.hid ((callsIn_wide (n := 3)).2 (meaning_any HV.out (hLWW.below ((Below.refl _ _).drew)) hmem))
      have HI := Lib.hid hi
      have HLWW := Lib.hid hLWW
      have HMEM := Lib.hid hmem
      have HLEN := Lib.hid hlen
      clear hck hi hLWW hp hx hM
      gi_wp2
      refine wpIn_region_kept (F := Fence.wide) (S := fun w' => w'.cell? ⟨w1.heap.size + 1, 1, none⟩ = some (.map (some w1.heap.size)) ∧ w'.cell? ⟨w1.heap.size + 1 + 1, 0, none⟩ = some (.pointer (some ⟨w1.heap.size + 1, 0, none⟩)) ∧ w'.cell? ⟨w3.heap.size, 0, none⟩ = some (.pointer (some ⟨w1.heap.size + 1 + 1 + 1 + 1, 0, none⟩)) ∧
        w'.cell? ⟨Bp, 0, none⟩ = some (.int .i64 (i : Int)) ∧ w'.cell? ⟨Bp, 1, none⟩ = some (.int .i64 (j : Int)) ∧ w'.cell? ⟨Bx, 0, none⟩ = some (.int .i64 it.kind) ∧ w'.cell? ⟨Bx, 1, none⟩ = some (.string it.name) ∧ w'.cell? ⟨Bx, 2, none⟩ = some (.int .i64 it.scope)) 1000 l (by kernel_rfl) (by kernel_rfl) ?_
      have hS0 := And.intro (cell_drew c0) (And.intro (cell_drew c1) (And.intro (cell_drew c2) (And.intro (cell_drew p0) (And.intro (cell_drew p1) (And.intro (cell_drew x0) (And.intro (cell_drew x1) (cell_drew x2)))))))
      refine KeptAny.take (i := 0) (v := ?_) (by kernel_rfl) rfl rfl (by kernel_rfl) (by kernel_rfl) (by kernel_rfl) (fun _ _ _ h => h) (by rfl) (fun w' hw' => ?_) (fun _ => rfl) hS0 ?_
      rotate_left
      · (obtain ⟨s0, s1, s2, s3, s4, s5, s6, s7⟩ := hw'; go_simp; try with_reducible rfl)
      refine KeptAny.take (i := 1) (v := ?_) (by kernel_rfl) rfl rfl (by kernel_rfl) (by kernel_rfl) (by kernel_rfl) (fun _ _ _ h => h) (by rfl) (fun w' hw' => ?_) (fun _ => rfl) hS0 ?_
      rotate_left
      · (obtain ⟨s0, s1, s2, s3, s4, s5, s6, s7⟩ := hw'; go_simp; try with_reducible rfl)
      refine KeptAny.take (i := 2) (v := ?_) (by kernel_rfl) rfl rfl (by kernel_rfl) (by kernel_rfl) (by kernel_rfl) (fun _ _ _ h => h) (by rfl) (fun w' hw' => ?_) (fun _ => rfl) hS0 ?_
      rotate_left
      · (obtain ⟨s0, s1, s2, s3, s4, s5, s6, s7⟩ := hw'; go_simp; try with_reducible rfl)
      refine KeptAny.take (i := 3) (v := ?_) (by kernel_rfl) rfl rfl (by kernel_rfl) (by kernel_rfl) (by kernel_rfl) (fun _ _ _ h => h) (by rfl) (fun w' hw' => ?_) (fun _ => rfl) hS0 ?_
      rotate_left
      · (obtain ⟨s0, s1, s2, s3, s4, s5, s6, s7⟩ := hw'; go_simp; try with_reducible rfl)
      refine KeptAny.take (i := 4) (v := ?_) (by kernel_rfl) rfl rfl (by kernel_rfl) (by kernel_rfl) (by kernel_rfl) (fun _ _ _ h => h) (by rfl) (fun w' hw' => ?_) (fun _ => rfl) hS0 ?_
      rotate_left
      · (obtain ⟨s0, s1, s2, s3, s4, s5, s6, s7⟩ := hw'; go_simp; try with_reducible rfl)
      refine KeptAny.take (i := 5) (v := ?_) (by kernel_rfl) rfl rfl (by kernel_rfl) (by kernel_rfl) (by kernel_rfl) (fun _ _ _ h => h) (by rfl) (fun w' hw' => ?_) (fun _ => rfl) hS0 ?_
      rotate_left
      · (obtain ⟨s0, s1, s2, s3, s4, s5, s6, s7⟩ := hw'; go_simp; try with_reducible rfl)
      refine KeptAny.take (i := 6) (v := ?_) (by kernel_rfl) rfl rfl (by kernel_rfl) (by kernel_rfl) (by kernel_rfl) (fun _ _ _ h => h) (by rfl) (fun w' hw' => ?_) (fun _ => rfl) hS0 ?_
      rotate_left
      · (obtain ⟨s0, s1, s2, s3, s4, s5, s6, s7⟩ := hw'; go_simp; try with_reducible rfl)
      refine KeptAny.take (i := 7) (v := ?_) (by kernel_rfl) rfl rfl (by kernel_rfl) (by kernel_rfl) (by kernel_rfl) (fun _ _ _ h => h) (by rfl) (fun w' hw' => ?_) (fun _ => rfl) hS0 ?_
      rotate_left
      · (obtain ⟨s0, s1, s2, s3, s4, s5, s6, s7⟩ := hw'; go_simp; try with_reducible rfl)
      refine KeptAny.one (i := 8) (by kernel_rfl) rfl (by rfl) (fun K hK => ?_)
      go_simp
      refine ⟨trivial, ?_⟩
      refine C2.out.mono ?_
      rintro e w4 ⟨u, rfl, hu, hl4⟩
      obtain ⟨le, hle, hme⟩ := HI.out.mean
      have hck4 : CellsKept W.drew.heap.size W.drew w4 := hl4.turns.cellsM (ss := ss) (HLWW.out.memo.below ((Below.refl _ _).drew))
      have hme4 := (hme.below ((Below.refl _ _).drew)).kept hck4 (hl4.turns.rest w1.heap.size (by have := HI.out.turns.size; show w1.heap.size < W.heap.size; omega) (by omega) (by omega))
      have hll : le.length < 1000 := by
        have h1 := congrArg List.length hle
        rw [List.length_map, List.length_map] at h1
        have h2 := HLEN.out
        omega
      obtain ⟨w6, hrun6, hme6, hg6⟩ := mean_put HV.out hme4 hll HMEM.out (ownsRow_lower hu (show w1.heap.size ≤ W.heap.size by have := HI.out.turns.size; omega))
      have hS4 := And.intro (cell_kept hck4 (cell_drew c0)) (And.intro (cell_kept hck4 (cell_drew c1)) (And.intro (cell_kept hck4 (cell_drew c2)) (And.intro (cell_kept hck4 (cell_drew p0)) (And.intro (cell_kept hck4 (cell_drew p1)) (And.intro (cell_kept hck4 (cell_drew x0)) (And.intro (cell_kept hck4 (cell_drew x1)) (cell_kept hck4 (cell_drew x2))))))))
      have hck6 : CellsKept w4.heap.size w4 w6 := cells_of_grown hg6 (fun r e => by
        cases e
        obtain ⟨es, clock, h1, _⟩ := hme4.map
        exact ⟨_, h1, rfl⟩)
      have hT46 : Turns W w6 (w1.heap.size + 1 + 1 + 1) w1.heap.size := ((Turns.of_below ((Below.refl W.heap.size W).drew)).trans ⟨hl4.turns.os, hl4.turns.tape, hl4.turns.output, hl4.turns.size, fun g hg h1 _ => hl4.turns.rest g hg h1 h1⟩).trans (.of_grown hg6 (.inr rfl))
      have HEND : Hid (ResRun W0 w1.heap.size (w1.heap.size + 1 + 1 + 1) w1.heap.size ss ((pre ++ [(⟨(i, j, it), HMEM.out⟩ : El ss)]).map Subtype.val) w6) := Lib.hid
        ⟨HI.out.turns.trans hT46, hl4.look.memo.same (hg6.block _ hl4.look.memo.lt (fun e => by have := Option.some.inj e; omega)), le ++ [((i, j, it), u)], by rw [List.map_append, List.map_append, hle]; rfl, hme6⟩
      have HT46 := Lib.hid hT46
      have HC46 : Hid (CellsKept W.heap.size W w6) := Lib.hid (by
        obtain ⟨lm, _, _, m⟩ := HI.out.memo
        exact hT46.cells m hme.map)
      refine hK.out _ _ hS4 (fun hS => ?_)
      refine KeptAny.one (i := 9) (by kernel_rfl) rfl (by rfl) (fun K' hK' => ?_)
      have HCK6 := Lib.hid hck6
      have HS := Lib.hid hS
      clear hme hme4 hme6 hg6 hT46 hl4 hu hle C2 hK hck6 hck4
      go_simp
      refine hK'.out _ _ ?_ (fun _ => ?_)
      · obtain ⟨s0, s1, s2, s3, s4, s5, s6, s7⟩ := HS.out
        exact ⟨cell_kept HCK6.out s0, cell_kept HCK6.out s1, cell_kept HCK6.out s2, cell_kept HCK6.out s3, cell_kept HCK6.out s4, cell_kept HCK6.out s5, cell_kept HCK6.out s6, cell_kept HCK6.out s7⟩
      refine KeptAny.done (by kernel_rfl) ?_ _
      gi_wp2
      exact ⟨HT46.out.keepsFrom (by omega) (by omega), HC46.out.mono (Nat.le_trans hw1 HI.out.turns.size), HEND.out⟩
    case done =>
      rintro D xs W hD hS hi hK
      have hck := hi.cells HLW0.out.memo HMW0.out
      have hw1 := HBX.out.size
      have hM := HM1.out
      have h3 := HS3.out
      have c1 := ((HBR.out.below HB35.out HBR.out.lt).cells hck).cell (i := 0) (v := .pointer (some ⟨w1.heap.size + 1, 0, none⟩)) (by rfl)
      have hBW : Below w.heap.size w W := (HB.out.trans (HBX.out.mono HB.out.size)).trans (hi.turns.below (by have := HB.out.size; omega) (by have := HB.out.size; omega) (by have := HB.out.size; omega))
      obtain ⟨le, hle, hme⟩ := hi.mean
      have hRW : ResW W w.heap.size (w1.heap.size + 1) T M1 M2 w1.heap.size v ds ss le :=
        ⟨{ tree := (HLW0.out.tree.tree.lower (by omega)).kept hck (Nat.le_refl _)
           hold := HLW0.out.tree.hold.keptC hck (Nat.le_refl _)
           pars := HLW0.out.tree.pars
           items := by obtain ⟨n, h⟩ := HLW0.out.tree.items; exact ⟨n, ownsMap_same h (hi.turns.rest M1 (by omega) (by omega) (by omega))⟩
           mods := by obtain ⟨n, h⟩ := HLW0.out.tree.mods; exact ⟨n, ownsMap_same h (hi.turns.rest M2 (by omega) (by omega) (by omega))⟩
           low1 := Nat.le_trans (by omega) HLW0.out.tree.low1
           low2 := Nat.le_trans (by omega) HLW0.out.tree.low2 }, (HRS.out.below HB35.out HRS.out.lt).cells hck, hme.lower HB.out.size, by rw [hle, hS]⟩
      have hDD : W0.heap.size ≤ D := by omega
      have HRW := Lib.hid hRW
      have HBW := Lib.hid hBW
      have HK := Lib.hid hK
      clear hi hck hRW hBW hme hle hS hD
      gi_wp2
      refine ⟨by simp, .inl ⟨_, _, rfl, run_takeDeferred HK.out, ?_⟩⟩
      refine ⟨_, results_tmp2 rfl _ _ _, .inr ⟨HV.out, w1.heap.size + 1, T, M1, M2, w1.heap.size, v, ds, le, rfl, HBW.out.trans (belowK_b (w := w) (Nat.le_refl _) W D _ _ (by have := HB.out.size; omega) HK.out rfl rfl), ?_⟩⟩
      exact HRW.out.kept2 (CellsKept.putObj W D _ _ HK.out rfl) (World.putObj_heap_other (by omega)) (World.putObj_heap_other (by omega)) (World.putObj_heap_other (by omega))
    case stop =>
      rintro D c pre W _ _ h _
      exact h.elim
end Go.Proofs.YtgehpaojbnpbcaaGreatDoor
namespace Go.Proofs.YtgehpaojbnpbcaaGreatDoor
open Go Go.RowKit Go.Maps
attribute [local go_sem ↓] field_kind field_name field_scope
set_option maxRecDepth 100000 in
set_option maxHeartbeats 4000000 in
theorem specMeant_any (ss : List Sc) (hv : Valid ss) (hf : FitsScopes ss) (oa : Option Addr) (cap : Nat) (s : Nat) (hs : s < ss.length) (nm : ByteArray) (w : World) (hc : HoldsScopes w oa ss) :
    Calls Tryz.prog 91 #[.agg #[.slice oa ss.length cap], .int .i64 (s : Int), .string nm] w (PlsGot (meantP ss s nm) w) := by
  have hb0 := (Below.refl w.heap.size w).alloc (Nat.le_refl _) (.cells #[.slice oa ss.length cap] 28)
  have R := Lib.hid (Row.new w [.slice oa ss.length cap] 28)
  have g2 := R.out.cell (i := 0) (by rfl)
  have HB0 := Lib.hid hb0
  have HC := Lib.hid hc
  have HV := Lib.hid hv
  have HF := Lib.hid hf
  have HS := Lib.hid hs
  clear hv hf hc hb0 hs
  go_enter Tryz.func91, Tryz.ntmps91
  go_wp2
  go_cut [6] (fun s6 wx => ∃ o4 c4, s6 = .slice o4 (meantP ss s nm).length c4 ∧ wx.ownsRow w.heap.size 59 2 (.slice o4 (meantP ss s nm).length c4) (meantP ss s nm).length (placeCells (meantP ss s nm)) ∧ Below w.heap.size w wx)
  case first =>
    go_region_held3 (fun w' => w'.cell? ⟨w.heap.size, 0, none⟩ = some (.slice oa ss.length cap))
      (first | exact g2 | exact cell_drew g2 | exact cell_grow hb3 (cell_drew g2) | exact cell_grow hb4 (cell_grow hb3 (cell_drew g2)))
      (first | (go_at_call 114; refine (specTable_any ss HV.out HF.out oa cap _ (HC.out.below HB0.out.drew (Nat.le_refl _))).mono ?_; rintro e w3 ⟨o3, c3, rfl, ht3, -, hb3⟩) | (go_at_call 113; refine (specMeantBy_any ss HV.out oa cap ss.length (Nat.le_refl _) o3 c3 s (Nat.le_of_lt HS.out) HS.out nm _ (HC.out.below (HB0.out.drew.trans (hb3.mono HB0.out.drew.size)) (Nat.le_refl _)) ht3).mono ?_; rintro e w4 ⟨v4, rfl, hrow4, hb4⟩; obtain ⟨o4, c4, rfl⟩ := ownsRow_slice hrow4))
    all_goals go_wp2
    all_goals go_meet
    all_goals exact ⟨o4, c4, rfl, ownsRow_lower hrow4 (Nat.le_trans HB0.out.drew.size hb3.size), (HB0.out.drew.trans (hb3.mono HB0.out.drew.size)).trans (hb4.mono (Nat.le_trans HB0.out.drew.size hb3.size))⟩
  case rest =>
    obtain ⟨o4, c4, rfl, hrow4, hbc⟩ := hcut
    have HR := Lib.hid hrow4
    have HBC := Lib.hid hbc
    clear hrow4 hbc
    go_wp2
    go_ret
    exact ⟨_, rfl, HR.out, HBC.out⟩
end Go.Proofs.YtgehpaojbnpbcaaGreatDoor
namespace Go.Proofs.YtgehpaojbnpbcaaGreatDoor
open Go Go.RowKit Go.Maps
attribute [local go_sem ↓] field_kind field_name field_scope field_places
/-- What the meanings answer at an item's place. -/
theorem mean_at {w : World} {B MR : Nat} {ss : List Sc} {l : List Ent} (hv : Valid ss) (h : MeanW w B MR ss l) (hf : l.map Prod.fst = placed 0 ss) {i j : Nat} {x : It} (hq : (i, j, x) ∈ placed 0 ss) :
    ∃ u, (Instr.lookup 125 (.map (some MR)) (.agg #[.int .i64 (i : Int), .int .i64 (j : Int)]) true).run Tryz.prog w = .ok (.tuple #[u, .bool true]) w ∧
      (Instr.lookup 125 (.map (some MR)) (.agg #[.int .i64 (i : Int), .int .i64 (j : Int)]) false).run Tryz.prog w = .ok u w ∧ w.ownsRow B 59 2 u (meanIt ss (i, j, x)).length (placeCells (meanIt ss (i, j, x))) := by
  have hlt := hv.small.lt hq
  have hx := placed_item hq
  dsimp only at hx hlt
  obtain ⟨u, h1, h2, h3⟩ := mean_look hv h hf (wf_small hlt.1) (wf_small hlt.2)
  rw [hx] at h1
  rcases h3 with ⟨h4, _⟩ | ⟨i', j', y, hi, hj, hy, _, h5⟩
  · rw [hx] at h4; cases h4
  · obtain rfl : i = i' := by omega
    obtain rfl : j = j' := by omega
    rw [hx] at hy
    cases hy
    exact ⟨u, h1, h2, h5⟩
/-- What the meanings answer at an item's place is one value wherever the map is the same. -/
theorem mean_fix {w : World} {B MR : Nat} {ss : List Sc} {l : List Ent} (hv : Valid ss) (h : MeanW w B MR ss l) (hf : l.map Prod.fst = placed 0 ss) {i j : Nat} {x : It} (hq : (i, j, x) ∈ placed 0 ss) :
    ∃ u, (∀ w' : World, w'.heap[MR]? = w.heap[MR]? → (Instr.lookup 125 (.map (some MR)) (.agg #[.int .i64 (i : Int), .int .i64 (j : Int)]) false).run Tryz.prog w' = .ok u w') ∧ w.ownsRow B 59 2 u (meanIt ss (i, j, x)).length (placeCells (meanIt ss (i, j, x))) := by
  have hlt := hv.small.lt hq
  dsimp only at hlt
  obtain ⟨e, he, hqe⟩ := List.mem_map.1 (hf ▸ hq)
  have e0 := putInto_at entKey entVal entKey_is (sliceD (.slice none 0 0)) l (.map []) nilMap (by rw [entKeys, hf]; exact plKey_apart hv.small) e he
  have ek : entKey e = plLit (i : Int) (j : Int) := by unfold entKey; rw [hqe]; rfl
  rw [ek] at e0
  have hl := h.lists e he
  have e0' : (entsD l).atKey (plLit (i : Int) (j : Int)) (sliceD (.slice none 0 0)) = sliceD e.2 := e0
  refine ⟨e.2, fun w' hw => ?_, by rw [hqe] at hl; exact hl⟩
  obtain ⟨v2, ps2, hrun2, hv2⟩ := (ownsMap_same h.map hw).lookup (t := 125) (e := 36) placeLaw Tryz.underlying125 (zeroSlice _) (by rfl) (pl_key (wf_small hlt.1) (wf_small hlt.2))
  obtain rfl := sliceR_eq (sliceR_own hl) (e0' ▸ hv2)
  exact hrun2
/-- There is an item; what it means. -/
def meanAt (ss : List Sc) (a b : Int) : List (Int × Int) := match itemAtP ss a b with
  | none => []
  | some x => meanIt ss (a.toNat, b.toNat, x)
theorem meanAt_of {ss : List Sc} {i j : Nat} {x : It} (h : (i, j, x) ∈ placed 0 ss) : meanAt ss (i : Int) (j : Int) = meanIt ss (i, j, x) := by
  have := placed_item h
  dsimp only at this
  unfold meanAt
  rw [this]
  rfl
theorem itemHas_of {ss : List Sc} (hv : Valid ss) {i j : Nat} {x : It} (h : (i, j, x) ∈ placed 0 ss) : itemHas ss (i : Int) (j : Int) := by
  have := placed_item h
  dsimp only at this
  exact ⟨hv, by rw [this]; rfl⟩
/-- What StateOf answers. -/
def StVal (ss : List Sc) (a b z : Int) : Prop := (Valid ss ∧ ∃ i j x, a = (i : Nat) ∧ b = (j : Nat) ∧ (i, j, x) ∈ placed 0 ss ∧ z = stateIt ss (i, j, x)) ∨ (¬ itemHas ss a b ∧ z = 0)
theorem StVal.same {ss : List Sc} {a b z z' : Int} (h : StVal ss a b z) (k : StVal ss a b z') : z = z' := by
  rcases h with ⟨hv, i, j, x, rfl, rfl, hx, rfl⟩ | ⟨hn, rfl⟩
  · rcases k with ⟨_, i', j', y, hi, hj, hy, rfl⟩ | ⟨kn, _⟩
    · obtain rfl : i = i' := by omega
      obtain rfl : j = j' := by omega
      have h1 := placed_item hx
      have h2 := placed_item hy
      dsimp only at h1 h2
      rw [h1] at h2
      cases h2
      rfl
    · exact absurd (itemHas_of hv hx) kn
  · rcases k with ⟨kv, i', j', y, rfl, rfl, hy, _⟩ | ⟨_, rfl⟩
    · exact absurd (itemHas_of kv hy) hn
    · rfl
def StGot (ss : List Sc) (a b : Int) (w : World) (e : Ending) (w' : World) : Prop := ∃ z, e = .returned (.int .i64 z) ∧ StVal ss a b z ∧ Below w.heap.size w w'
end Go.Proofs.YtgehpaojbnpbcaaGreatDoor
namespace Go.Proofs.YtgehpaojbnpbcaaGreatDoor
open Go Go.RowKit
/-- Whether an item that means l means the same at the place p of another graph, its declarations standing where st tells. -/
def sameG (tt : List Sc) (st : Int × Int → Option (Int × Int)) (l : List (Int × Int)) (p : Int × Int) : Bool :=
  decide ((∀ d ∈ l, (st d).isSome = true) ∧ l.filterMap st = meanAt tt p.1 p.2)
/-- Whether an item is there in another graph and means something else. -/
def chgB1 (ss tt : List Sc) (st : Int × Int → Option (Int × Int)) (q : Nat × Nat × It) : Bool :=
  match st (plOf q) with
  | none => false
  | some p => !sameG tt st (meanIt ss q) p
/-- The places of the items that are there in another graph and mean something else. -/
def chgG (ss tt : List Sc) (st : Int × Int → Option (Int × Int)) : List (Int × Int) := filtL (chgB1 ss tt st) (placed 0 ss)
end Go.Proofs.YtgehpaojbnpbcaaGreatDoor
namespace Go.Proofs.YtgehpaojbnpbcaaGreatDoor
open Go Go.RowKit
theorem filtL_congr {f g : Nat × Nat × It → Bool} {l : List (Nat × Nat × It)} (h : ∀ q ∈ l, f q = g q) : filtL f l = filtL g l := by
  unfold filtL
  rw [List.filter_congr h]
theorem sameG_add {tt : List Sc} {l : List (Int × Int)} {p : Int × Int} : sameG tt some l p = decide (l = meanAt tt p.1 p.2) := by
  unfold sameG
  rw [show l.filterMap some = l from List.filterMap_some]
  rw [decide_eq_decide]
  exact ⟨fun h => h.2, fun h => ⟨fun _ _ => rfl, h⟩⟩
/-- The places of the items that mean something else in another graph, where they have the same places. -/
def chgA (ss tt : List Sc) : List (Int × Int) := filtL (fun q => !decide (meanIt ss q = meanAt tt (q.1 : Int) (q.2.1 : Int))) (placed 0 ss)
theorem chgG_add {ss tt : List Sc} : chgG ss tt some = chgA ss tt := by
  refine filtL_congr fun q _ => ?_
  unfold chgB1
  dsimp only
  rw [sameG_add]
  rfl
theorem chgG_length (ss tt : List Sc) (st : Int × Int → Option (Int × Int)) : (chgG ss tt st).length ≤ (placed 0 ss).length := filtL_length _ _
end Go.Proofs.YtgehpaojbnpbcaaGreatDoor
namespace Go.Proofs.YtgehpaojbnpbcaaGreatDoor
open Go Go.RowKit Go.Maps
set_option maxRecDepth 100000 in
set_option maxHeartbeats 4000000 in
theorem equalPl_any (xs ys : List (Int × Int)) (ox oy : Option Addr) (cx cy : Nat) (w : World) (hx : xs.length ≤ 1000000) (hy : ys.length ≤ 1000000) (ax : ArgPlaces w ox xs) (ay : ArgPlaces w oy ys) :
    Calls Tryz.prog 118 #[.slice ox xs.length cx, .slice oy ys.length cy] w fun e w' => e = .returned (.bool (decide (xs = ys))) ∧ Below w.heap.size w w' := by
  have AX := Lib.hid ax
  have AY := Lib.hid ay
  clear ax ay
  by_cases hl : xs.length = ys.length
  · have l1 : ((xs.length : Int) != (ys.length : Int)) = false := by simp [hl]
    have l2 : ((xs.length : Int) == (ys.length : Int)) = true := by simp [hl]
    have HL := Lib.hid hl
    clear hl
    obtain ⟨q, hq⟩ : ∃ q, decide (xs = ys) = q := ⟨_, rfl⟩
    rw [hq]
    have HQ := Lib.hid hq
    clear hq
    go_enter Tryz.func118, Tryz.ntmps118
    go_wp2
    go_loopw [13] (fun i wr => ∃ k : Nat, i = .int .i64 k ∧ k ≤ xs.length ∧ Hid (∀ m, m < k → xs[m]? = ys[m]?) ∧ Hid (Below w.heap.size w wr)) (fun i _ => xs.length - (intOf i).toNat)
    case atStart => exact ⟨0, rfl, Nat.zero_le _, Lib.hid (fun m hm => absurd hm (by omega)), Lib.hid (Below.refl _ _)⟩
    case round =>
      obtain ⟨k, rfl, hk, HR, HW⟩ := hrel
      by_cases hlt : k < xs.length
      · have hlt2 : k < ys.length := by have := HL.out; omega
        obtain ⟨⟨a, b⟩, hp⟩ : ∃ p, xs[k]? = some p := ⟨_, List.getElem?_eq_getElem hlt⟩
        obtain ⟨⟨c, d⟩, hp2⟩ : ∃ p, ys[k]? = some p := ⟨_, List.getElem?_eq_getElem hlt2⟩
        obtain ⟨b1, f1, rfl, hb1, q1⟩ := (AX.out.below HW.out).at (by omega)
        obtain ⟨b2, f2, rfl, hb2, q2⟩ := (AY.out.below HW.out).at (by omega)
        obtain ⟨x0, x1⟩ := q1 k _ hp
        obtain ⟨y0, y1⟩ := q2 k _ hp2
        have x0' := cell_drew x0
        have x1' := cell_drew x1
        have y0' := cell_drew y0
        have y1' := cell_drew y1
        dsimp only at x0 x1 y0 y1 x0' x1' y0' y1'
        have HNX : Hid ((a, b) = (c, d) → ∀ m, m < k + 1 → xs[m]? = ys[m]?) := Lib.hid (by
          intro h m hm
          by_cases he : m = k
          · subst he
            rw [hp, hp2, h]
          · exact HR.out m (by omega))
        have HBAD : Hid ((a, b) ≠ (c, d) → q = false) := Lib.hid (by
          intro h
          rw [← HQ.out]
          refine decide_eq_false fun e => h ?_
          rw [e, hp2] at hp
          exact (Option.some.inj hp).symm)
        clear hp hp2 q1 q2 hb1 hb2
        by_cases h1 : a = c
        · subst h1
          by_cases h2 : b = d
          · subst h2
            have HG := Lib.hid (HNX.out rfl)
            go_wp2
            go_region
            all_goals go_wp2
            all_goals go_roundw
            all_goals first
              | (case rel => exact ⟨k + 1, by go_num, by omega, HG, Lib.hid HW.out.drew⟩)
              | (case measure => simp only [intOf]; omega)
          · have HF := Lib.hid (HBAD.out (fun e => h2 (Prod.mk.inj e).2))
            have e1 : (b == d) = false := by simpa using h2
            go_wp2
            go_region
            all_goals go_wp2
            all_goals go_ret
            all_goals exact ⟨by rw [HF.out]; rfl, HW.out.drew⟩
        · have HF := Lib.hid (HBAD.out (fun e => h1 (Prod.mk.inj e).1))
          have e1 : (a == c) = false := by simpa using h1
          go_wp2
          go_region
          all_goals go_wp2
          all_goals go_ret
          all_goals exact ⟨by rw [HF.out]; rfl, HW.out.drew⟩
      · obtain rfl : k = xs.length := by omega
        have HS : Hid (q = true) := Lib.hid (by
          rw [← HQ.out]
          refine decide_eq_true (List.ext_getElem? fun m => ?_)
          by_cases hm : m < xs.length
          · exact HR.out m hm
          · rw [List.getElem?_eq_none (by omega), List.getElem?_eq_none (by have := HL.out; omega)])
        go_wp2
        go_ret
        exact ⟨by rw [HS.out]; rfl, HW.out⟩
  · have l1 : ((xs.length : Int) != (ys.length : Int)) = true := by simp; omega
    have l2 : ((xs.length : Int) == (ys.length : Int)) = false := by simp; omega
    have HF : Hid (decide (xs = ys) = false) := Lib.hid (decide_eq_false fun e => hl (by rw [e]))
    clear hl
    go_enter Tryz.func118, Tryz.ntmps118
    go_wp2
    go_ret
    exact ⟨by rw [HF.out]; rfl, Below.refl _ _⟩
end Go.Proofs.YtgehpaojbnpbcaaGreatDoor
namespace Go.Proofs.YtgehpaojbnpbcaaGreatDoor
open Go Go.RowKit Go.Maps
/-- What a function tells of where a place stands. -/
def StTold (st : Int × Int → Option (Int × Int)) (d : Int × Int) (x y : Int) (ok : Bool) : Prop := (ok = true ∧ st d = some (x, y)) ∨ (ok = false ∧ st d = none)
/-- A function value that tells where places stand, in every world behind w. -/
def StandsOk (w : World) (u : Value) (st : Int × Int → Option (Int × Int)) : Prop := ∃ (f : Nat) (lb : Array Value), u = .func (.func f) #[] lb ∧ (∀ args W, (callFunc f args).run Tryz.prog W = .ok (.enter f args) W) ∧
  ∀ (i j : Nat) (W : World), i < 1000 → j < 1000 → Below w.heap.size w W → Calls Tryz.prog f (#[.agg #[.int .i64 (i : Int), .int .i64 (j : Int)]] ++ lb) W fun e W' => ∃ x y ok, e = .returned (.tuple #[.agg #[.int .i64 x, .int .i64 y], .bool ok]) ∧ StTold st ((i : Int), (j : Int)) x y ok ∧ Below W.heap.size W W'
theorem StandsOk.below {w w' : World} {u : Value} {st : Int × Int → Option (Int × Int)} (h : StandsOk w u st) (hb : Below w.heap.size w w') : StandsOk w' u st := by
  obtain ⟨f, lb, h1, h2, h3⟩ := h
  exact ⟨f, lb, h1, h2, fun i j W hi hj hW => h3 i j W hi hj (hb.trans (hW.mono hb.size))⟩
/-- A resolution of a graph lies in memory. -/
def ResIs (w : World) (R : Nat) (ss : List Sc) : Prop := ∃ (B T M1 M2 MR : Nat) (v : Value) (ds : List Nd) (l : List Ent), ResW w B R T M1 M2 MR v ds ss l
theorem ResIs.below {w w' : World} {R : Nat} {ss : List Sc} (h : ResIs w R ss) (hb : Below w.heap.size w w') : ResIs w' R ss := by
  obtain ⟨B, T, M1, M2, MR, v, ds, l, h⟩ := h
  exact ⟨B, T, M1, M2, MR, v, ds, l, h.below hb⟩
/-- A comparison lies in memory. -/
structure CompIs (w : World) (C R1 R2 : Nat) (u : Value) (ss tt : List Sc) (st : Int × Int → Option (Int × Int)) : Prop where
  row : Row w C 107 [.pointer (some ⟨R1, 0, none⟩), .pointer (some ⟨R2, 0, none⟩), u]
  res1 : ResIs w R1 ss
  res2 : ResIs w R2 tt
  stands : StandsOk w u st
theorem CompIs.below {w w' : World} {C R1 R2 : Nat} {u : Value} {ss tt : List Sc} {st : Int × Int → Option (Int × Int)} (h : CompIs w C R1 R2 u ss tt st) (hb : Below w.heap.size w w') : CompIs w' C R1 R2 u ss tt st :=
  ⟨h.row.below hb h.row.lt, h.res1.below hb, h.res2.below hb, h.stands.below hb⟩
/-- What stands of the first k of a list. -/
def stUp (st : Int × Int → Option (Int × Int)) (l : List (Int × Int)) (k : Nat) : List (Int × Int) := (l.take k).filterMap st
theorem stUp_length (st : Int × Int → Option (Int × Int)) (l : List (Int × Int)) (k : Nat) : (stUp st l k).length ≤ l.length := Nat.le_trans (List.length_filterMap_le _ _) (List.length_take_le' _ _)
theorem stUp_snoc {st : Int × Int → Option (Int × Int)} {l : List (Int × Int)} {k : Nat} {d p : Int × Int} (h : l[k]? = some d) (hs : st d = some p) : stUp st l (k + 1) = stUp st l k ++ [p] := by
  unfold stUp
  rw [List.take_add_one, h, List.filterMap_append]
  simp [hs]
theorem cell4 {w1 W : World} {p0 p1 p2 : Addr} {v0 v1 v2 : Value} (c0 : w1.cell? p0 = some v0) (c1 : w1.cell? p1 = some v1) (c2 : w1.cell? p2 = some v2) (hb : Below w1.heap.size w1 W) :
    W.cell? p0 = some v0 ∧ W.cell? p1 = some v1 ∧ W.cell? p2 = some v2 ∧ Below w1.heap.size w1 W := ⟨cell_grow hb c0, cell_grow hb c1, cell_grow hb c2, hb⟩
set_option maxRecDepth 100000 in
set_option maxHeartbeats 16000000 in
theorem same_any {ss tt : List Sc} (hv : Valid ss) (hv2 : Valid tt) {st : Int × Int → Option (Int × Int)} {w : World} {C R1 R2 : Nat} {u : Value} (hC : CompIs w C R1 R2 u ss tt st) {i j i2 j2 : Nat} {x x2 : It} (hq : (i, j, x) ∈ placed 0 ss) (hq2 : (i2, j2, x2) ∈ placed 0 tt) :
    Calls Tryz.prog 97 #[.pointer (some ⟨C, 0, none⟩), .agg #[.int .i64 (i : Int), .int .i64 (j : Int)], .agg #[.int .i64 (i2 : Int), .int .i64 (j2 : Int)]] w fun e w' => e = .returned (.bool (sameG tt st (meanIt ss (i, j, x)) ((i2 : Int), (j2 : Int)))) ∧ Below w.heap.size w w' := by
  have hb0 : Below w.heap.size w ((w.alloc (.cells #[.int .i64 (i : Int), .int .i64 (j : Int)] 59)).alloc (.cells #[.int .i64 (i2 : Int), .int .i64 (j2 : Int)] 59)).drew := (((Below.refl _ _).alloc (Nat.le_refl _) _).alloc (by simp) _).drew
  have HC := Lib.hid hC
  have HC0 := Lib.hid (hC.below hb0)
  have HB0 := Lib.hid hb0
  have RB := (Row.new w [.int .i64 (i : Int), .int .i64 (j : Int)] 59).alloc (.cells #[.int .i64 (i2 : Int), .int .i64 (j2 : Int)] 59)
  have RA := Row.new (w.alloc (.cells #[.int .i64 (i : Int), .int .i64 (j : Int)] 59)) [.int .i64 (i2 : Int), .int .i64 (j2 : Int)] 59
  rw [World.size_alloc] at RA
  have HRA := Lib.hid RA.drew
  have b0 := cell_drew (RB.cell (i := 0) (by rfl))
  have b1 := cell_drew (RB.cell (i := 1) (by rfl))
  have cc0 := HC0.out.row.cell (i := 0) (by rfl)
  obtain ⟨f, lb, rfl, hen, hst⟩ := hC.stands
  have HST := Lib.hid hst
  obtain ⟨Br, T, M1, M2, MR, v, ds, l, hR⟩ := HC0.out.res1
  have r1 := hR.box.cell (i := 1) (by rfl)
  obtain ⟨u1, -, hrun, hown⟩ := mean_at hv hR.mean hR.full hq
  obtain ⟨o1, c1, rfl, harg⟩ := argPlaces_of_owns hown
  have HA1 := Lib.hid harg
  have HP1 := Lib.hid (meanIt_isPlace hq)
  have HN1 := meanIt_length hv (i, j, x)
  have HV := Lib.hid (And.intro hv (And.intro hv2 hq2))
  obtain ⟨q, hsq⟩ : ∃ q, sameG tt st (meanIt ss (i, j, x)) ((i2 : Int), (j2 : Int)) = q := ⟨_, rfl⟩
  rw [hsq]
  have HSG : Hid (decide ((∀ d ∈ meanIt ss (i, j, x), (st d).isSome = true) ∧ (meanIt ss (i, j, x)).filterMap st = meanIt tt (i2, j2, x2)) = q) := Lib.hid (by rw [← hsq]; unfold sameG; rw [show meanAt tt ((i2 : Int), (j2 : Int)).1 ((i2 : Int), (j2 : Int)).2 = meanIt tt (i2, j2, x2) from meanAt_of hq2])
  have HSM := hv.small
  have HSMH := Lib.hid HSM
  clear hC hb0 RB RA hst hR hown harg hv hv2 hq hq2 hsq HSM
  generalize meanIt ss (i, j, x) = ml at *
  go_enter Tryz.func97, Tryz.ntmps97
  go_wp2
  go_region
  all_goals go_wp2
  generalize hW0 : ((w.alloc (.cells #[.int .i64 (i : Int), .int .i64 (j : Int)] 59)).alloc (.cells #[.int .i64 (i2 : Int), .int .i64 (j2 : Int)] 59)).drew = W0 at *
  go_loopw [7, 22] (fun v i wr => ∃ k : Nat, i = .int .i64 k ∧ k ≤ ml.length ∧ Hid (∀ m d, m < k → ml[m]? = some d → (st d).isSome = true) ∧ Hid (wr.ownsRow W0.heap.size 59 2 v (stUp st ml k).length (placeCells (stUp st ml k)) ∧ Below w.heap.size w wr ∧ Below W0.heap.size W0 wr)) (fun _ i _ => ml.length - (intOf i).toNat)
  case atStart => exact ⟨0, rfl, Nat.zero_le _, Lib.hid (fun m d hm => absurd hm (by omega)), Lib.hid ⟨World.ownsRow_nil _ _ _ _, HB0.out, Below.refl _ _⟩⟩
  case round =>
    obtain ⟨k, rfl, hk, HS, HW⟩ := hrel
    obtain ⟨ov, cv, rfl⟩ := ownsRow_slice HW.out.1
    by_cases hlt : k < ml.length
    · obtain ⟨d, hd⟩ : ∃ d, ml[k]? = some d := ⟨_, List.getElem?_eq_getElem hlt⟩
      obtain ⟨ci, cj, cs, cx, rfl, hcs, hcx⟩ := HP1.out d (List.mem_of_getElem? hd)
      have hci : ci < 1000 := by have h1 := (List.getElem?_eq_some_iff.1 hcs).1; have h2 := HSMH.out.len; omega
      have hcj : cj < 1000 := by have h1 := (List.getElem?_eq_some_iff.1 hcx).1; have h2 := HSMH.out.items cs (List.mem_of_getElem? hcs); omega
      obtain ⟨b2, f2, rfl, hb2, q2⟩ := (HA1.out.below HW.out.2.2).at (by omega)
      obtain ⟨x0, x1⟩ := q2 k _ hd
      dsimp only at x0 x1
      have hbq := (Below.refl wr.heap.size wr).alloc (Nat.le_refl _) (.cells #[.int .i64 (ci : Int), .int .i64 (cj : Int)] 59)
      have RQ := Row.new wr [.int .i64 (ci : Int), .int .i64 (cj : Int)] 59
      have k0 := RQ.cell (i := 0) (v := .int .i64 (ci : Int)) (by rfl)
      have k1 := RQ.cell (i := 1) (v := .int .i64 (cj : Int)) (by rfl)
      have XB := Lib.hid (HW.out.2.1.trans (hbq.mono HW.out.2.1.size))
      have XB0 := Lib.hid (HW.out.2.2.trans (hbq.mono HW.out.2.2.size))
      have XO := Lib.hid (ownsRow_below HW.out.1 hbq)
      have XS : Hid (wr.heap.size < (wr.alloc (.cells #[.int .i64 (ci : Int), .int .i64 (cj : Int)] 59)).heap.size) := Lib.hid (by simp)
      have cf := (HC.out.row.below XB.out HC.out.row.lt).cell (i := 2) (v := .func (.func f) #[] lb) (by rfl)
      have HD := Lib.hid hd
      have HIJ := Lib.hid (And.intro hci hcj)
      clear hbq RQ q2 hb2 hcs hcx hci hcj hd
      go_wp2
      generalize wr.alloc (.cells #[.int .i64 (ci : Int), .int .i64 (cj : Int)] 59) = wq at *
      go_cut [10, 11] (fun s10 s11 wx => ∃ (g : Nat) (x y : Int) (ok : Bool), s10 = .pointer (some ⟨g, 0, none⟩) ∧ s11 = .bool ok ∧ StTold st ((ci : Int), (cj : Int)) x y ok ∧ Row wx g 59 [.int .i64 x, .int .i64 y] ∧ wq.heap.size ≤ g ∧ Below wq.heap.size wq wx)
      case first =>
        go_region_held3 (fun w' => w'.cell? ⟨C, 2, none⟩ = some (.func (.func f) #[] lb) ∧ w'.cell? ⟨wr.heap.size, 0, none⟩ = some (.int .i64 (ci : Int)) ∧ w'.cell? ⟨wr.heap.size, 1, none⟩ = some (.int .i64 (cj : Int)) ∧ Below wq.heap.size wq w')
          (first
            | exact cell4 cf k0 k1 (Below.refl _ _)
            | exact cell4 cf k0 k1 ((Below.refl _ _).drew)
            | exact cell4 cf k0 k1 (((Below.refl _ _).drew).alloc (Nat.le_refl _) _)
            | exact cell4 cf k0 k1 (((Below.refl _ _).alloc (Nat.le_refl _) _).drew)
            | exact cell4 cf k0 k1 hBs
            | exact cell4 cf k0 k1 (hBs.alloc hBs.size _)
            | exact cell4 cf k0 k1 ((hBs.setCell (Nat.le_refl _) _).setCell (Nat.le_refl _) _)
            | exact cell4 cf k0 k1 ((hBs.setCell hBs.size _).setCell hBs.size _))
          (first
            | (go_at_fn f; refine (HST.out ci cj _ HIJ.out.1 HIJ.out.2 (XB.out.trans ((show Below wq.heap.size wq _ from (And.right (And.right (And.right (by assumption))))).mono XB.out.size))).mono ?_; rintro e ws ⟨x, y, ok, rfl, hst, hbs⟩; have hBs := Below.trans (show Below wq.heap.size wq _ from (And.right (And.right (And.right (by assumption))))) (hbs.mono (Below.size (And.right (And.right (And.right (by assumption)))))); (first | (have hz := Row.below (Row.new _ [.int .i64 0, .int .i64 0] 59) hbs (by simp); have z0 := hz.cell (i := 0) (by rfl); have z1 := hz.cell (i := 1) (by rfl); have zf0 := hz.frozen 0; have zf1 := hz.frozen 1) | (have hz := Row.below (Row.drew (Row.new _ [.int .i64 0, .int .i64 0] 59)) hbs (by simp); have z0 := hz.cell (i := 0) (by rfl); have z1 := hz.cell (i := 1) (by rfl); have zf0 := hz.frozen 0; have zf1 := hz.frozen 1) | skip)))
        all_goals go_wp2
        all_goals go_meet
        all_goals first
          | exact ⟨_, x, y, ok, rfl, rfl, hst, Row.new _ [.int .i64 x, .int .i64 y] 59, hBs.size, hBs.alloc hBs.size _⟩
          | exact ⟨_, x, y, ok, rfl, rfl, hst, (hz.set 0 _).set 1 _, Nat.le_refl _, (hBs.setCell (Nat.le_refl _) _).setCell (Nat.le_refl _) _⟩
      case rest =>
        obtain ⟨g, xx, yy, ok, rfl, rfl, hst, hrow, hg, hbc⟩ := hcut
        have YB := Lib.hid (XB.out.trans (hbc.mono XB.out.size))
        have YB0 := Lib.hid (XB0.out.trans (hbc.mono XB0.out.size))
        have YO := Lib.hid (ownsRow_below XO.out hbc)
        cases ok
        · have HF : Hid (q = false) := Lib.hid (by
            rw [← HSG.out]
            refine decide_eq_false fun h => ?_
            rcases hst with ⟨h1, _⟩ | ⟨_, h1⟩
            · cases h1
            · have h2 := h.1 _ (List.mem_of_getElem? HD.out)
              rw [h1] at h2
              cases h2)
          clear hst hrow hg hbc k0 k1 cf
          go_wp2
          go_ret
          exact ⟨by rw [HF.out]; rfl, YB.out⟩
        · have hss : st ((ci : Int), (cj : Int)) = some (xx, yy) := by
            rcases hst with ⟨_, h1⟩ | ⟨h1, _⟩
            · exact h1
            · cases h1
          have HSN : Hid (∀ m d, m < k + 1 → ml[m]? = some d → (st d).isSome = true) := Lib.hid (by
            intro m d hm hmd
            by_cases he : m = k
            · subst he
              rw [HD.out] at hmd
              obtain rfl := Option.some.inj hmd
              rw [hss]; rfl
            · exact HS.out m d (by omega) hmd)
          have HE : Hid (stUp st ml (k + 1) = stUp st ml k ++ [(xx, yy)]) := Lib.hid (stUp_snoc HD.out hss)
          have g0 := hrow.cell (i := 0) (v := .int .i64 xx) (by rfl)
          have g1 := hrow.cell (i := 1) (v := .int .i64 yy) (by rfl)
          have hpl := stUp_length st ml k
          obtain ⟨v', w', hrun', hown', hgrow, -⟩ := append_placeW YO.out xx yy (by omega) YB0.out.size 36
          have HP4 : Hid (w'.ownsRow W0.heap.size 59 2 v' (stUp st ml (k + 1)).length (placeCells (stUp st ml (k + 1))) ∧ Below w.heap.size w w' ∧ Below W0.heap.size W0 w') := Lib.hid
            ⟨by rw [HE.out, List.length_append, placeCells_snoc]; exact hown', YB.out.trans (below_append2 YO.out hgrow HB0.out.size YB.out.size), YB0.out.trans (below_append2 YO.out hgrow (Nat.le_refl W0.heap.size) YB0.out.size)⟩
          obtain ⟨ov', cv', rfl⟩ := ownsRow_slice hown'
          clear hst hrow hg hbc k0 k1 cf hss hown' hgrow
          go_wp2_with (at_builtin; refine wpList_append_run rfl _ _ 36 rfl hrun' ?_)
          go_roundw
          case rel => exact ⟨k + 1, by go_num, by omega, HSN, HP4⟩
          case measure => simp only [intOf]; omega
    · obtain rfl : k = ml.length := by omega
      have hRW := (HC0.out.below HW.out.2.2)
      obtain ⟨B3, T3, N1, N2, MS, v3, ds3, l3, hR3⟩ := hRW.res2.below ((Below.refl wr.heap.size wr).drew)
      obtain ⟨u3, hfix, hown3⟩ := mean_fix HV.out.2.1 hR3.mean hR3.full HV.out.2.2
      obtain ⟨o3, c3, rfl, harg3⟩ := argPlaces_of_owns hown3
      obtain ⟨o4, c4, he4, harg4⟩ := argPlaces_of_owns (ownsRow_below HW.out.1 ((Below.refl wr.heap.size wr).drew))
      simp only [Value.slice.injEq] at he4
      obtain ⟨rfl, -, rfl⟩ := he4
      have hfull : stUp st ml ml.length = ml.filterMap st := by unfold stUp; rw [List.take_length]
      have HQ2 : Hid (decide (stUp st ml ml.length = meanIt tt (i2, j2, x2)) = q) := Lib.hid (by
        rw [← HSG.out, hfull, decide_eq_decide]
        constructor
        · exact fun h => ⟨fun d hd => by
            obtain ⟨m, hm⟩ := List.mem_iff_getElem?.1 hd
            exact HS.out m d (List.getElem?_eq_some_iff.1 hm).1 hm, h⟩
        · exact fun h => h.2)
      have hn3 := meanIt_length HV.out.2.1 (i2, j2, x2)
      have hpl := stUp_length st ml ml.length
      have D := Lib.hid ((callsIn_wide (n := 5)).2 (equalPl_any (stUp st ml ml.length) (meanIt tt (i2, j2, x2)) ov o3 cv c3 wr.drew (by omega) (by omega) harg4 harg3))
      rw [HQ2.out] at D
      have m1 := cell_drew (hRW.row.cell (i := 1) (v := .pointer (some ⟨R2, 0, none⟩)) (by rfl))
      have m2 := hR3.box.cell (i := 1) (v := .map (some MS)) (by rfl)
      have a0 := cell_drew ((HRA.out.below HW.out.2.2 HRA.out.lt).cell (i := 0) (v := .int .i64 (i2 : Int)) (by rfl))
      have a1 := cell_drew ((HRA.out.below HW.out.2.2 HRA.out.lt).cell (i := 1) (v := .int .i64 (j2 : Int)) (by rfl))
      have HFX := Lib.hid hfix
      have HBW := Lib.hid HW.out.2.1
      have hms : MS < wr.heap.size := hR3.mean.lt
      clear hRW hR3 hfix hown3 harg3 harg4 hfull hpl hn3
      generalize meanIt tt (i2, j2, x2) = m3 at *
      go_wp2
      refine wp_region_kept (S := fun w' => w'.cell? ⟨C, 1, none⟩ = some (.pointer (some ⟨R2, 0, none⟩)) ∧ w'.cell? ⟨R2, 1, none⟩ = some (.map (some MS)) ∧ w'.cell? ⟨w.heap.size + 1, 0, none⟩ = some (.int .i64 (i2 : Int)) ∧ w'.cell? ⟨w.heap.size + 1, 1, none⟩ = some (.int .i64 (j2 : Int)) ∧ w'.heap[MS]? = wr.drew.heap[MS]?) 11 (by kernel_rfl) ?_
      have hS0 := And.intro m1 (And.intro m2 (And.intro a0 (And.intro a1 (rfl : wr.drew.heap[MS]? = wr.drew.heap[MS]?))))
      refine KeptAny.take (i := 0) (v := ?_) (by kernel_rfl) rfl rfl (by kernel_rfl) (by kernel_rfl) (by kernel_rfl) (fun _ _ _ h => h) (by rfl) (fun w' hw' => ?_) (fun _ => rfl) hS0 ?_
      rotate_left
      · (obtain ⟨g0, g1, g2, g3, g4⟩ := hw'; go_simp; try with_reducible rfl)
      refine KeptAny.take (i := 1) (v := ?_) (by kernel_rfl) rfl rfl (by kernel_rfl) (by kernel_rfl) (by kernel_rfl) (fun _ _ _ h => h) (by rfl) (fun w' hw' => ?_) (fun _ => rfl) hS0 ?_
      rotate_left
      · (obtain ⟨g0, g1, g2, g3, g4⟩ := hw'; go_simp; try with_reducible rfl)
      refine KeptAny.take (i := 2) (v := ?_) (by kernel_rfl) rfl rfl (by kernel_rfl) (by kernel_rfl) (by kernel_rfl) (fun _ _ _ h => h) (by rfl) (fun w' hw' => ?_) (fun _ => rfl) hS0 ?_
      rotate_left
      · (obtain ⟨g0, g1, g2, g3, g4⟩ := hw'; go_simp; try with_reducible rfl)
      refine KeptAny.take (i := 3) (v := ?_) (by kernel_rfl) rfl rfl (by kernel_rfl) (by kernel_rfl) (by kernel_rfl) (fun _ _ _ h => h) (by rfl) (fun w' hw' => ?_) (fun _ => rfl) hS0 ?_
      rotate_left
      · (obtain ⟨g0, g1, g2, g3, g4⟩ := hw'; go_simp; try with_reducible rfl)
      refine KeptAny.take (i := 4) (v := ?_) (by kernel_rfl) rfl rfl (by kernel_rfl) (by kernel_rfl) (by kernel_rfl) (fun _ _ _ h => h) (by rfl) (fun w' hw' => ?_) (fun _ => rfl) hS0 ?_
      rotate_left
      · (obtain ⟨g0, g1, g2, g3, g4⟩ := hw'; go_simp; try with_reducible rfl)
      refine KeptAny.take (i := 5) (v := ?_) (by kernel_rfl) rfl rfl (by kernel_rfl) (by kernel_rfl) (by kernel_rfl) (fun _ _ _ h => h) (by rfl) (fun w' hw' => ?_) (fun _ => rfl) hS0 ?_
      rotate_left
      · (obtain ⟨g0, g1, g2, g3, g4⟩ := hw'; go_simp; try with_reducible rfl)
      refine KeptAny.take (i := 6) (v := ?_) (by kernel_rfl) rfl rfl (by kernel_rfl) (by kernel_rfl) (by kernel_rfl) (fun _ _ _ h => h) (by rfl) (fun w' hw' => ?_) (fun _ => rfl) hS0 ?_
      rotate_left
      · (obtain ⟨g0, g1, g2, g3, g4⟩ := hw'; go_simp; try with_reducible rfl)
      refine KeptAny.take (i := 7) (v := ?_) (by kernel_rfl) rfl rfl (by kernel_rfl) (by kernel_rfl) (by kernel_rfl) (fun _ _ _ h => h) (by rfl) (fun w' hw' => ?_) (fun _ => rfl) hS0 ?_
      rotate_left
      · (obtain ⟨g0, g1, g2, g3, g4⟩ := hw'; go_simp; try with_reducible rfl)
      refine KeptAny.take (i := 8) (v := ?_) (by kernel_rfl) rfl rfl (by kernel_rfl) (by kernel_rfl) (by kernel_rfl) (fun _ _ _ h => h) (by rfl) (fun w' hw' => ?_) (fun _ => rfl) hS0 ?_
      rotate_left
      · (obtain ⟨g0, g1, g2, g3, g4⟩ := hw'; go_simp; try with_reducible rfl)
      refine KeptAny.take (i := 9) (v := ?_) (by kernel_rfl) rfl rfl (by kernel_rfl) (by kernel_rfl) (by kernel_rfl) (fun _ _ _ h => h) (by rfl) (fun w' hw' => ?_) (fun _ => rfl) hS0 ?_
      rotate_left
      · (obtain ⟨g0, g1, g2, g3, g4⟩ := hw'; have hl := HFX.out w' g4; go_simp; try with_reducible rfl)
      refine KeptAny.one (i := 10) (by kernel_rfl) rfl (by rfl) (fun K hK => ?_)
      go_simp
      refine ⟨trivial, ?_⟩
      refine D.out.mono ?_
      rintro e w5 ⟨rfl, hb5⟩
      have hS5 := And.intro (cell_grow hb5 hS0.1) (And.intro (cell_grow hb5 hS0.2.1) (And.intro (cell_grow hb5 hS0.2.2.1) (And.intro (cell_grow hb5 hS0.2.2.2.1) (hb5.block MS hms))))
      have HB5 := Lib.hid (HBW.out.drew.trans (hb5.mono HBW.out.size))
      refine hK.out _ _ hS5 (fun _ => ?_)
      clear hK hb5 hS0
      refine KeptAny.one (i := 11) (by kernel_rfl) rfl (by rfl) (fun K hK => ?_)
      go_simp
      refine hK.out _ _ hS5 (fun _ => ?_)
      clear hK hS5
      refine KeptAny.done (by kernel_rfl) ?_ _
      go_wp2
      go_ret
      exact ⟨rfl, HB5.out⟩
end Go.Proofs.YtgehpaojbnpbcaaGreatDoor
