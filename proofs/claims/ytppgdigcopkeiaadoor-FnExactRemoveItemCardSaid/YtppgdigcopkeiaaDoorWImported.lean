/-
  The walks of impl's (*lookup).imported and way.from, where the targets of the scope's items are told.
-/
import Derived.Test.YtppgdigcopkeiaaDoorWImportsOf
import Derived.Test.YtppgdigcopkeiaaDoorWFrom
namespace Go.Proofs.YtppgdigcopkeiaaDoor
open Go Go.RowKit Go.Maps
/-- What a call leaves beside the lookup: a list of places of its own. -/
def PlsLeft (l : List (Int × Int)) (w : World) (B L M T M1 M2 : Nat) (v : Value) (ds : List Nd) (ss : List Sc) (e : Ending) (w' : World) : Prop :=
  ∃ u, e = .returned u ∧ w'.ownsRow w.heap.size 34 2 u l.length (placeCells l) ∧ Left w w' B L M T M1 M2 v ds ss
set_option maxRecDepth 100000 in
set_option maxHeartbeats 4000000 in
theorem imported_any {ss : List Sc} (hv : Valid ss) {w : World} {B L M T M1 M2 : Nat} {v : Value} {ds : List Nd} (hL : LookW w B L M T M1 M2 v ds ss) {s : Nat} {d : Nd} (hd : ds[s]? = some d) (hT : TargetC B L M T M1 M2 v ds ss s) (nm : ByteArray) :
    Calls Tryd.prog 170 #[.pointer (some ⟨L, 0, none⟩), .pointer (some ⟨d.blk, 0, none⟩), .string nm] w (PlsLeft (fromP ss (impP ss s) nm) w B L M T M1 M2 v ds ss) := by
  have C := Lib.hid (importsOf_any hv hL hd hT)
  have HV := Lib.hid hv
  have HL0 := Lib.hid hL
  clear hv hL hd hT
  go_enter Tryd.func170, Tryd.ntmps170
  go_wp2_with fail
  refine C.out.mono ?_
  rintro e w1 ⟨u1, rfl, hrow1, hl1⟩
  obtain ⟨o1, c1, rfl, hh1⟩ := holdsInts_of_owns hrow1
  have HL1 := Lib.hid hl1
  have HI := Lib.hid hh1
  have hn6 : (natInts (impP ss s)).length ≤ 5 := by rw [natInts_length]; exact impP_length HV.out s
  have HN : Hid ((natInts (impP ss s)).length = (impP ss s).length) := Lib.hid (natInts_length _)
  have HOK := Lib.hid (impP_ok HV.out s).1
  have hs6 := HV.out.count.2
  have HLEN : Hid (ds.length = ss.length) := Lib.hid HL0.out.tree.hold.len
  clear hrow1 hl1 hh1
  go_wp2
  go_loopw [7, 14] (fun u i wr => ∃ k : Nat, i = .int .i64 k ∧ k ≤ (natInts (impP ss s)).length ∧ Hid (wr.ownsRow w1.heap.size 34 2 u (fromP ss ((impP ss s).take k) nm).length (placeCells (fromP ss ((impP ss s).take k) nm)) ∧ Left w wr B L M T M1 M2 v ds ss ∧ Below w1.heap.size w1 wr)) (fun _ i _ => (natInts (impP ss s)).length - (intOf i).toNat)
  case atStart => exact ⟨0, rfl, Nat.zero_le _, Lib.hid ⟨World.ownsRow_nil _ _ _ _, HL1.out, Below.refl _ _⟩⟩
  case round =>
    obtain ⟨k, rfl, hk, hP⟩ := hrel
    by_cases hlt : k < (natInts (impP ss s)).length
    · obtain ⟨x, hx⟩ : ∃ x, (impP ss s)[k]? = some x := ⟨_, List.getElem?_eq_getElem (by rw [HN.out] at hlt; exact hlt)⟩
      have hxi : (natInts (impP ss s))[k]? = some (x : Int) := by unfold natInts; rw [List.getElem?_map, hx]; rfl
      obtain ⟨b1, f1, rfl, hb1, q1⟩ := HI.out.at (by omega)
      have a0 := (hP.out.2.2.cell (p := ⟨b1, f1 + k, none⟩) hb1).trans (q1 k _ hxi)
      have hxl := HOK.out x (List.mem_of_getElem? hx)
      obtain ⟨dx, hdx⟩ : ∃ e, ds[x]? = some e := ⟨_, List.getElem?_eq_getElem (by rw [HLEN.out]; exact hxl)⟩
      have hTr := hP.out.2.1.look.tree
      obtain ⟨g, cap', rfl, hgB, hg, hslot⟩ := hTr.tree.slot (by intro e; rw [e] at hdx; simp at hdx)
      have s0 := hslot x dx hdx
      unfold Nd.ptr at s0
      have t0 := hTr.tree.box.cell (i := 0) (by rfl)
      have l0 := hP.out.2.1.look.box.cell (i := 0) (by rfl)
      have hdl : ds.length = ss.length := HLEN.out
      have C2 := Lib.hid (own_any HV.out hTr hdx nm)
      have HTK : Hid (fromP ss ((impP ss s).take (k + 1)) nm = fromP ss ((impP ss s).take k) nm ++ ownP ss x nm) := Lib.hid (by rw [List.take_add_one, hx]; exact fromP_snoc _ _ _ _)
      have hfl : (fromP ss ((impP ss s).take k) nm).length ≤ 30 := by
        have h1 := fromP_length HV.out nm ((impP ss s).take k)
        rw [List.length_take] at h1
        have h2 := HN.out
        omega
      have hol := ownP_length HV.out x nm
      clear hx hxi q1 hTr hslot hdx
      go_wp2_with fail
      refine C2.out.mono ?_
      rintro e w2 ⟨u, rfl, hu, hb2⟩
      have HU2 := Lib.hid (ownsRow_below hP.out.1 hb2)
      have HL2 := Lib.hid (hP.out.2.1.step hb2)
      have HB2 := Lib.hid (hP.out.2.2.trans (hb2.mono hP.out.2.2.size))
      obtain ⟨v', w3, hrun, hown', hgrow⟩ := append_places HU2.out hu (by omega) HB2.out.size 39
      have HL3 := Lib.hid (Left.far HL0.out HL2.out (grown_below HU2.out hgrow HL1.out.turns.size HL2.out.turns.size))
      have HB3 := Lib.hid (HB2.out.trans (grown_below HU2.out hgrow (Nat.le_refl _) HB2.out.size))
      have HU3 : Hid (w3.ownsRow w1.heap.size 34 2 v' (fromP ss ((impP ss s).take (k + 1)) nm).length (placeCells (fromP ss ((impP ss s).take (k + 1)) nm))) := Lib.hid (by rw [HTK.out, List.length_append, placeCells_append]; exact hown')
      have HRUN := Lib.hid hrun
      clear hown' hgrow hu hb2 hrun
      go_wp2_with (at_builtin; refine wpList_append_run rfl _ _ 39 rfl HRUN.out ?_)
      go_wp2
      go_roundw
      case rel => exact ⟨k + 1, by go_num, by omega, Lib.hid ⟨HU3.out, HL3.out, HB3.out⟩⟩
      case measure => simp only [intOf]; omega
    · obtain rfl : k = (natInts (impP ss s)).length := by omega
      have HE : Hid ((impP ss s).take (natInts (impP ss s)).length = impP ss s) := Lib.hid (by rw [HN.out, List.take_length])
      go_wp2
      go_ret
      exact ⟨_, rfl, by have := hP.out.1; rw [HE.out] at this; exact ownsRow_lower this HL1.out.turns.size, hP.out.2.1⟩
/-- What a way answers. -/
def wayP (ss : List Sc) (s : Nat) (nm : ByteArray) : Nat → List (Int × Int)
  | 1 => ownP ss s nm
  | _ => fromP ss (impP ss s) nm
set_option maxRecDepth 100000 in
theorem wayFrom_any {ss : List Sc} (hv : Valid ss) {w : World} {B L M T M1 M2 : Nat} {v : Value} {ds : List Nd} (hL : LookW w B L M T M1 M2 v ds ss) {s : Nat} {d : Nd} (hd : ds[s]? = some d) (hT : TargetC B L M T M1 M2 v ds ss s) (nm : ByteArray) (y : Nat) (hy : y = 1 ∨ y = 2) :
    Calls Tryd.prog 145 #[.int .i64 (y : Int), .pointer (some ⟨L, 0, none⟩), .pointer (some ⟨d.blk, 0, none⟩), .string nm] w (PlsLeft (wayP ss s nm y) w B L M T M1 M2 v ds ss) := by
  have C1 := Lib.hid (own_any hv hL.tree hd nm)
  have C2 := Lib.hid (imported_any hv hL hd hT nm)
  have HL0 := Lib.hid hL
  clear hv hL hd hT
  rcases hy with rfl | rfl
  · go_enter Tryd.func145, Tryd.ntmps145
    go_wp2_with fail
    refine C1.out.mono ?_
    rintro e w1 ⟨u, rfl, hu, hb⟩
    have HU := Lib.hid hu
    have HL1 := Lib.hid (HL0.out.left.step hb)
    clear hu hb
    go_wp2
    go_ret
    exact ⟨_, rfl, HU.out, HL1.out⟩
  · go_enter Tryd.func145, Tryd.ntmps145
    go_wp2_with fail
    refine C2.out.mono ?_
    rintro e w1 ⟨u, rfl, hu, hl⟩
    have HU := Lib.hid hu
    have HL1 := Lib.hid hl
    clear hu hl
    go_wp2
    go_ret
    exact ⟨_, rfl, HU.out, HL1.out⟩
end Go.Proofs.YtppgdigcopkeiaaDoor
