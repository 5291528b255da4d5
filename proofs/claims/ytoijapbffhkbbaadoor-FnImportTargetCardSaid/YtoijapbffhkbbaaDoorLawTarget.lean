/-
  The walks of ImportTarget, the given one's and impl's. Conditions: the argument's memory holds the graph; the package-level errors hold errors.
  The walk of the law FnImportTarget: at every argument it returns true, and only new memory is written. Conditions: the argument's memory holds bytes; the package-level errors hold errors.
-/
import Derived.Test.YtoijapbffhkbbaaDoorWTable
import Derived.Test.YtoijapbffhkbbaaDoorWTarget
import Derived.Test.YtoijapbffhkbbaaDoorWDraws2
import Derived.Test.YtoijapbffhkbbaaDoorWSame
import Derived.Test.YtoijapbffhkbbaaDoorLawPls
import Derived.Test.YtoijapbffhkbbaaDoorWCircles
import Derived.Test.YtoijapbffhkbbaaDoorWImplLook
namespace Go.Proofs.YtoijapbffhkbbaaDoor
open Go Go.RowKit Go.Maps
attribute [local go_sem ↓] field_kind field_name field_scope
set_option maxRecDepth 100000 in
set_option maxHeartbeats 4000000 in
theorem specMeant_any (ss : List Sc) (hv : Valid ss) (hf : FitsScopes ss) (oa : Option Addr) (cap : Nat) (s : Nat) (hs : s < ss.length) (nm : ByteArray) (w : World) (hc : HoldsScopes w oa ss) :
    Calls Tryd.prog 151 #[.agg #[.slice oa ss.length cap], .int .i64 (s : Int), .string nm] w (PlsGot (meantP ss s nm) w) := by
  have hb0 := (Below.refl w.heap.size w).alloc (Nat.le_refl _) (.cells #[.slice oa ss.length cap] 30)
  have R := Lib.hid (Row.new w [.slice oa ss.length cap] 30)
  have g2 := R.out.cell (i := 0) (by rfl)
  have HB0 := Lib.hid hb0
  have HC := Lib.hid hc
  have HV := Lib.hid hv
  have HF := Lib.hid hf
  have HS := Lib.hid hs
  clear hv hf hc hb0 hs
  go_enter Tryd.func151, Tryd.ntmps151
  go_wp2
  go_cut [6] (fun s6 wx => ∃ o4 c4, s6 = .slice o4 (meantP ss s nm).length c4 ∧ wx.ownsRow w.heap.size 43 2 (.slice o4 (meantP ss s nm).length c4) (meantP ss s nm).length (placeCells (meantP ss s nm)) ∧ Below w.heap.size w wx)
  case first =>
    go_region_held3 (fun w' => w'.cell? ⟨w.heap.size, 0, none⟩ = some (.slice oa ss.length cap))
      (first | exact g2 | exact cell_drew g2 | exact cell_grow hb3 (cell_drew g2) | exact cell_grow hb4 (cell_grow hb3 (cell_drew g2)))
      (first | (go_at_call 141; refine (specTable_any ss HV.out HF.out oa cap _ (HC.out.below HB0.out.drew (Nat.le_refl _))).mono ?_; rintro e w3 ⟨o3, c3, rfl, ht3, -, hb3⟩) | (go_at_call 177; refine (specMeantBy_any ss HV.out oa cap ss.length (Nat.le_refl _) o3 c3 s (Nat.le_of_lt HS.out) HS.out nm _ (HC.out.below (HB0.out.drew.trans (hb3.mono HB0.out.drew.size)) (Nat.le_refl _)) ht3).mono ?_; rintro e w4 ⟨v4, rfl, hrow4, hb4⟩; obtain ⟨o4, c4, rfl⟩ := ownsRow_slice hrow4))
    all_goals go_wp2
    all_goals go_meet
    all_goals exact ⟨o4, c4, rfl, ownsRow_lower hrow4 (Nat.le_trans HB0.out.drew.size hb3.size), (HB0.out.drew.trans (hb3.mono HB0.out.drew.size)).trans (hb4.mono (Nat.le_trans HB0.out.drew.size hb3.size))⟩
  case rest =>
    obtain ⟨o4, c4, rfl, hrow4, hbc⟩ := hcut
    have HR := Lib.hid hrow4
    have HBC := Lib.hid hbc
    clear hrow4 hbc
    go_wp2
    go_ret
    exact ⟨_, rfl, HR.out, HBC.out⟩
theorem meantP_length {ss : List Sc} (hv : Valid ss) (s : Nat) (nm : ByteArray) : (meantP ss s nm).length ≤ 25 := by
  unfold meantP meantF
  split
  · split
    · simp
    · exact lookF_length hv _ _
  · have := ownP_length hv s nm; omega
set_option maxRecDepth 100000 in
set_option maxHeartbeats 4000000 in
theorem specTarget_any (ss : List Sc) (hv : Valid ss) (hf : FitsScopes ss) (oa : Option Addr) (cap : Nat) (s : Nat) (hs : s < ss.length) (nm : ByteArray) (w : World) (hc : HoldsScopes w oa ss) :
    Calls Tryd.prog 112 #[.agg #[.slice oa ss.length cap], .int .i64 (s : Int), .string nm] w fun e w' => e = .returned (.int .i64 (targetP ss s nm)) ∧ Below w.heap.size w w' := by
  have hb0 := (Below.refl w.heap.size w).alloc (Nat.le_refl _) (.cells #[.slice oa ss.length cap] 30)
  have R := Lib.hid (Row.new w [.slice oa ss.length cap] 30)
  have C := Lib.hid (specMeant_any ss hv hf oa cap s hs nm _ (hc.below hb0 (Nat.le_refl _)))
  have HB0 := Lib.hid hb0
  have HC := Lib.hid hc
  have HF := Lib.hid hf
  have hml := meantP_length hv s nm
  clear hv hf hc hb0 hs
  go_enter Tryd.func112, Tryd.ntmps112
  go_wp2_with fail
  refine C.out.mono ?_
  rintro e w3 ⟨v3, rfl, hrow3, hb3⟩
  obtain ⟨o3, c3, rfl, harg⟩ := argPlaces_of_owns hrow3
  have HB3 := Lib.hid (HB0.out.trans (hb3.mono HB0.out.size))
  have R3 := Lib.hid (R.out.below hb3 R.out.lt)
  have HA3 := Lib.hid harg
  clear hb3 hrow3 harg
  by_cases h1 : (meantP ss s nm).length = 1
  · obtain ⟨p, hp⟩ := List.length_eq_one_iff.1 h1
    obtain ⟨i2, j2, c2, y, rfl, hc2, hy2⟩ := meant_isPlace p (by rw [hp]; exact List.mem_singleton.2 rfl)
    have HTG : Hid (targetP ss s nm = y.scope) := Lib.hid (by rw [targetP_one hp, scopeAt_of hc2 hy2])
    obtain ⟨b5, f5, rfl, hb5, q5⟩ := HA3.out.at (by omega)
    obtain ⟨r0, r1⟩ := q5 0 ((i2 : Int), (j2 : Int)) (by rw [hp]; rfl)
    rw [Nat.zero_mul, Nat.add_zero] at r0 r1
    have g3 := R3.out.cell (i := 0) (by rfl)
    have C3 := fun W (hbW : Below w.heap.size w W) => specAt_any ss HF.out oa cap i2 j2 c2 y hc2 hy2 W (HC.out.below hbW (Nat.le_refl _))
    have HC3 := Lib.hid C3
    clear C3 hp hc2 hy2 q5
    rw [h1]
    go_wp2
    go_cut [6] (fun s6 wx => s6 = .int .i64 y.scope ∧ Below w3.heap.size w3 wx)
    case first =>
      go_region_held3 (fun w' => w'.cell? ⟨w.heap.size, 0, none⟩ = some (.slice oa ss.length cap) ∧ w'.cell? ⟨b5, f5, none⟩ = some (.int .i64 (i2 : Int)) ∧ w'.cell? ⟨b5, f5 + 1, none⟩ = some (.int .i64 (j2 : Int)))
        (first | exact ⟨g3, r0, r1⟩ | exact ⟨cell_drew g3, cell_drew r0, cell_drew r1⟩ | exact ⟨cell_grow hb4 (cell_drew g3), cell_grow hb4 (cell_drew r0), cell_grow hb4 (cell_drew r1)⟩)
        (first | (go_at_call 130; refine (HC3.out _ HB3.out.drew).mono ?_; rintro e w4 ⟨rfl, hb4⟩; unfold itV))
      all_goals go_wp2
      all_goals go_meet
      all_goals exact ⟨rfl, ((Below.refl _ _).drew).trans hb4⟩
    case rest =>
      obtain ⟨rfl, hbc⟩ := hcut
      have HB4 := Lib.hid (HB3.out.trans (hbc.mono HB3.out.size))
      clear hbc g3 r0 r1
      go_wp2
      go_ret
      exact ⟨by rw [HTG.out]; rfl, HB4.out⟩
  · have HTG : Hid (targetP ss s nm = -1) := Lib.hid (targetP_not h1)
    have hne : (((meantP ss s nm).length : Int) == 1) = false := by simp; omega
    go_wp2
    go_ret
    exact ⟨by rw [HTG.out]; rfl, HB3.out⟩
/-- What ImportTarget answers. -/
def TgtVal (ss : List Sc) (a b z : Int) : Prop := (Valid ss ∧ ∃ x, itemAtP ss a b = some x ∧ x.kind = 3 ∧ z = targetP ss a.toNat x.name) ∨ (¬ (Valid ss ∧ ∃ x, itemAtP ss a b = some x ∧ x.kind = 3) ∧ z = -1)
theorem TgtVal.same {ss : List Sc} {a b z z' : Int} (h : TgtVal ss a b z) (k : TgtVal ss a b z') : z = z' := by
  rcases h with ⟨hv, x, hx, hk, rfl⟩ | ⟨hn, rfl⟩
  · rcases k with ⟨_, y, hy, _, rfl⟩ | ⟨kn, _⟩
    · rw [hx] at hy; cases hy; rfl
    · exact absurd ⟨hv, x, hx, hk⟩ kn
  · rcases k with ⟨kv, y, hy, kk, _⟩ | ⟨_, rfl⟩
    · exact absurd ⟨kv, y, hy, kk⟩ hn
    · rfl
def TgtGot (ss : List Sc) (a b : Int) (w : World) (e : Ending) (w' : World) : Prop := ∃ z, e = .returned (.int .i64 z) ∧ TgtVal ss a b z ∧ Below w.heap.size w w'
theorem itemAtP_some {ss : List Sc} {a b : Int} {x : It} (h : itemAtP ss a b = some x) : ∃ (i j : Nat) (c : Sc), a = (i : Int) ∧ b = (j : Int) ∧ ss[i]? = some c ∧ c.items[j]? = some x := by
  unfold itemAtP at h
  split at h
  · rename_i h0
    cases hc : ss[a.toNat]? with
    | none => rw [hc] at h; cases h
    | some c =>
      rw [hc] at h
      exact ⟨a.toNat, b.toNat, c, by omega, by omega, hc, h⟩
  · cases h
set_option maxRecDepth 100000 in
set_option maxHeartbeats 4000000 in
theorem specImportTarget_any (ss : List Sc) (hf : FitsScopes ss) (oa : Option Addr) (cap : Nat) (a b : Int) (w : World) (hc : HoldsScopes w oa ss) :
    Calls Tryd.prog 57 #[.agg #[.slice oa ss.length cap], .agg #[.int .i64 a, .int .i64 b]] w (TgtGot ss a b w) := by
  have hb0 : Below w.heap.size w ((w.alloc (.cells #[.slice oa ss.length cap] 30)).alloc (.cells #[.int .i64 a, .int .i64 b] 43)) := ((Below.refl _ _).alloc (Nat.le_refl _) _).alloc (by simp) _
  have RG := Lib.hid ((Row.new w [.slice oa ss.length cap] 30).alloc (.cells #[.int .i64 a, .int .i64 b] 43))
  have RP : Hid (Row ((w.alloc (.cells #[.slice oa ss.length cap] 30)).alloc (.cells #[.int .i64 a, .int .i64 b] 43)) (w.heap.size + 1) 43 [.int .i64 a, .int .i64 b]) := Lib.hid (by
    have := Row.new (w.alloc (.cells #[.slice oa ss.length cap] 30)) [.int .i64 a, .int .i64 b] 43
    rw [World.size_alloc] at this
    exact this)
  have C := Lib.hid (specItemAt_any ss hf oa cap a b _ (hc.below hb0 (Nat.le_refl _)))
  have HB0 := Lib.hid hb0
  have HC := Lib.hid hc
  have HF := Lib.hid hf
  clear hf hc hb0
  go_enter Tryd.func57, Tryd.ntmps57
  go_wp2_with fail
  refine C.out.mono ?_
  rintro e w1 ⟨x, ok, rfl, hcase, hb1⟩
  have HB1 := Lib.hid (HB0.out.trans (hb1.mono HB0.out.size))
  have RG1 := Lib.hid (RG.out.below hb1 RG.out.lt)
  have RP1 := Lib.hid (RP.out.below hb1 RP.out.lt)
  clear hb1
  unfold itV
  rcases hcase with ⟨hv, hx, rfl⟩ | ⟨hn, rfl, rfl⟩
  · obtain ⟨i, j, c, rfl, rfl, hsc, hjx⟩ := itemAtP_some hx
    have HX := Lib.hid hx
    have HV := Lib.hid hv
    have hbx := (Below.refl w1.heap.size w1).alloc (Nat.le_refl _) (.cells #[.int .i64 x.kind, .string x.name, .int .i64 x.scope] 57)
    have HB2 := Lib.hid (HB1.out.trans (hbx.mono HB1.out.size))
    have g2 := (RG1.out.below hbx RG1.out.lt).cell (i := 0) (v := .slice oa ss.length cap) (by rfl)
    have p2 := (RP1.out.below hbx RP1.out.lt).cell (i := 0) (v := .int .i64 (i : Int)) (by rfl)
    by_cases hk : x.kind = 3
    · have hq : (x.kind == 3) = true := by simpa using hk
      have HR : Hid (TgtVal ss (i : Int) (j : Int) (targetP ss i x.name)) := Lib.hid (.inl ⟨hv, x, hx, hk, rfl⟩)
      have C2 := Lib.hid (specTarget_any ss hv HF.out oa cap i (List.getElem?_eq_some_iff.1 hsc).1 x.name _ (HC.out.below HB2.out (Nat.le_refl _)))
      clear hk hx hv hsc hjx hbx
      go_wp2_with fail
      refine C2.out.mono ?_
      rintro e w3 ⟨rfl, hb3⟩
      have HB3 := Lib.hid (HB2.out.trans (hb3.mono HB2.out.size))
      clear hb3
      go_wp2
      go_ret
      exact ⟨_, rfl, HR.out, HB3.out⟩
    · have hq : (x.kind == 3) = false := by simpa using hk
      have HR : Hid (TgtVal ss (i : Int) (j : Int) (-1)) := Lib.hid (.inr ⟨fun h => by obtain ⟨_, y, hy, hky⟩ := h; rw [hx] at hy; cases hy; exact hk hky, rfl⟩)
      clear hk hx hv hsc hjx hbx
      go_wp2
      go_ret
      exact ⟨_, rfl, HR.out, HB2.out⟩
  · have HR : Hid (TgtVal ss a b (-1)) := Lib.hid (.inr ⟨fun h => by obtain ⟨hv, y, hy, _⟩ := h; exact hn ⟨hv, by rw [hy]; rfl⟩, rfl⟩)
    clear hn
    unfold zeroIt
    go_wp2
    go_ret
    exact ⟨_, rfl, HR.out, HB1.out.alloc HB1.out.size _⟩
theorem look_any {w : World} {B T M1 M2 : Nat} {v : Value} {ds : List Nd} {ss : List Sc} (hv : Valid ss) (hT : TreeIs w B T M1 M2 v ds ss) {a b : Int} (w1 : (Lit.int .i64 a).wf = true) (w2 : (Lit.int .i64 b).wf = true) :
    (Instr.lookup 113 (.map (some M1)) (.agg #[.int .i64 a, .int .i64 b]) false).run Tryd.prog w = .ok (.agg #[.int .i64 ((itemAtP ss a b).getD zeroIt).kind, .string ((itemAtP ss a b).getD zeroIt).name, .int .i64 ((itemAtP ss a b).getD zeroIt).scope]) w := by
  obtain ⟨_, hat⟩ := look_item hv.small w1 w2
  obtain ⟨n1, hm⟩ := hT.items
  obtain ⟨v1, ps, hrun, hv1⟩ := hm.lookup (t := 113) (e := 57) placeLaw Tryd.underlying113 (zeroItem _) (itemR_mk zeroIt) (pl_key w1 w2)
  rw [hat] at hv1
  obtain rfl := itemR_eq hv1
  exact hrun
set_option maxRecDepth 100000 in
set_option maxHeartbeats 4000000 in
theorem implImportTarget_any (ss : List Sc) (hF : Fair ss) (oa : Option Addr) (cap : Nat) (a b : Int) (ha : (Lit.int .i64 a).wf = true) (hb' : (Lit.int .i64 b).wf = true) (w : World) (hc : HoldsScopes w oa ss) (hE : TreeErrs w) :
    Calls Tryd.prog 54 #[.agg #[.slice oa ss.length cap], .agg #[.int .i64 a, .int .i64 b]] w (TgtGot ss a b w) := by
  have hb0 : Below w.heap.size w ((w.alloc (.cells #[.slice oa ss.length cap] 30)).alloc (.cells #[.int .i64 a, .int .i64 b] 43)) := ((Below.refl _ _).alloc (Nat.le_refl _) _).alloc (by simp) _
  have C := Lib.hid (hF.tree oa cap _ (hc.below hb0 (Nat.le_refl _)) (hE.below hb0 hE.size))
  have RP : Hid (Row ((w.alloc (.cells #[.slice oa ss.length cap] 30)).alloc (.cells #[.int .i64 a, .int .i64 b] 43)) (w.heap.size + 1) 43 [.int .i64 a, .int .i64 b]) := Lib.hid (by
    have := Row.new (w.alloc (.cells #[.slice oa ss.length cap] 30)) [.int .i64 a, .int .i64 b] 43
    rw [World.size_alloc] at this
    exact this)
  have HB0 := Lib.hid hb0
  have HWF := Lib.hid (And.intro ha hb')
  clear hF hc hE hb0 ha hb'
  go_enter Tryd.func54, Tryd.ntmps54
  go_wp2_with fail
  refine C.out.mono ?_
  rintro e w1 (⟨hv, ⟨tp, p, rfl⟩, hb⟩ | ⟨hv, T, M1, M2, v, ds, rfl, hb, hT⟩)
  · have HB := Lib.hid (HB0.out.trans (hb.mono HB0.out.size))
    have HR : Hid (TgtVal ss a b (-1)) := Lib.hid (.inr ⟨fun h => hv h.1, rfl⟩)
    clear hv hb
    go_wp2
    go_region
    all_goals go_wp2
    all_goals go_ret
    all_goals exact ⟨_, rfl, HR.out, HB.out.drew⟩
  · have HB := Lib.hid (HB0.out.trans (hb.mono HB0.out.size))
    have RP1 := Lib.hid (RP.out.below hb RP.out.lt)
    have hTd := hT.below ((Below.refl w1.heap.size w1).drew)
    have hrun := look_any hv hTd HWF.out.1 HWF.out.2
    have t1 := hTd.tree.box.cell (i := 1) (by rfl)
    have p0 := cell_drew (RP1.out.cell (i := 0) (by rfl))
    have p1 := cell_drew (RP1.out.cell (i := 1) (by rfl))
    have HV := Lib.hid hv
    have HTd := Lib.hid hTd
    clear hb hT hTd hv
    obtain ⟨x, hxe⟩ : ∃ x, (itemAtP ss a b).getD zeroIt = x := ⟨_, rfl⟩
    rw [hxe] at hrun
    have HXE := Lib.hid hxe
    clear hxe
    by_cases hk : x.kind = 3
    · have hq : (x.kind == 3) = true := by simpa using hk
      have HX : Hid (itemAtP ss a b = some x) := Lib.hid (by
        cases h : itemAtP ss a b with
        | none =>
          have := HXE.out
          rw [h] at this
          subst this
          exact absurd hk (by decide)
        | some y =>
          have := HXE.out
          rw [h] at this
          subst this
          rfl)
      obtain ⟨i, j, c, rfl, rfl, hsc, hjx⟩ := itemAtP_some HX.out
      have HQ : Hid (IsItem ss (i, j)) := Lib.hid ⟨c, x, hsc, hjx⟩
      have HR : Hid (TgtVal ss (i : Int) (j : Int) (tgt ss (i, j))) := Lib.hid (.inl ⟨HV.out, x, HX.out, hk, by rw [tgt_of hsc hjx, Int.toNat_natCast]⟩)
      clear hk hsc hjx
      go_wp2
      go_region
      clear hrun t1
      have HTE := Lib.hid (HTd.out.below ((Below.refl _ _).drew))
      have HBE := Lib.hid (HB.out.drew.drew)
      have HNE : Hid (M1 ≠ w1.drew.drew.heap.size ∧ M2 ≠ w1.drew.drew.heap.size) := Lib.hid (by
        obtain ⟨_, h1⟩ := HTE.out.items
        obtain ⟨_, h2⟩ := HTE.out.mods
        have := h1.lt
        have := h2.lt
        omega)
      have hbl : w.heap.size + 1 < w1.drew.drew.heap.size := RP1.out.lt
      go_wp2
      go_cut [4] (fun s4 wx => s4 = .int .i64 (tgt ss (i, j)) ∧ Below w.heap.size w wx)
      case first =>
        go_region_held3 (fun w' => w'.cell? ⟨w.heap.size + 1, 0, none⟩ = some (.int .i64 (i : Int)) ∧ w'.cell? ⟨w.heap.size + 1, 1, none⟩ = some (.int .i64 (j : Int)))
          (first | exact ⟨p0, p1⟩ | exact ⟨cell_drew p0, cell_drew p1⟩ | exact ⟨cell_grow hb3 (cell_drew p0), cell_grow hb3 (cell_drew p1)⟩ | exact ⟨hc4.cell (Nat.lt_of_lt_of_le hbl hb3.size) (cell_grow hb3 (cell_drew p0)), hc4.cell (Nat.lt_of_lt_of_le hbl hb3.size) (cell_grow hb3 (cell_drew p1))⟩)
          (first | (go_at_call 76; refine (lookupIn_any T _).mono ?_; rintro e w3 ⟨rfl, hR3, hM3, hb3⟩) | (go_at_call 108; refine (target_any HV.out i j HQ.out _ (LookW.mk (HTE.out.below hb3) hR3 (memo_nil hM3) HNE.out.1 HNE.out.2)).mono ?_; rintro e w4 ⟨rfl, hl4⟩; have hc4 := hl4.turns.cellsM (memo_nil (ss := ss) hM3)))
        all_goals go_wp2
        all_goals go_meet
        all_goals exact ⟨rfl, (HBE.out.trans (hb3.mono HBE.out.size)).trans (hl4.turns.below HBE.out.size HBE.out.size (Nat.le_trans HBE.out.size hb3.size))⟩
      case rest =>
        obtain ⟨rfl, hbc⟩ := hcut
        have HBC := Lib.hid hbc
        clear hbc p0 p1
        go_wp2
        go_ret
        exact ⟨_, rfl, HR.out, HBC.out⟩
    · have hq : (x.kind == 3) = false := by simpa using hk
      have HR : Hid (TgtVal ss a b (-1)) := Lib.hid (.inr ⟨fun h => by
        obtain ⟨_, y, hy, hky⟩ := h
        have := HXE.out
        rw [hy] at this
        subst this
        exact hk hky, rfl⟩)
      clear hk
      go_wp2
      go_region
      all_goals go_wp2
      all_goals go_ret
      all_goals exact ⟨_, rfl, HR.out, HB.out.drew⟩
end Go.Proofs.YtoijapbffhkbbaaDoor
namespace Go.Proofs.YtoijapbffhkbbaaDoor
open Go Go.RowKit
theorem circ_imports {ss : List Sc} {m : Nat} (h : m ∈ circP ss) : 0 < (impP ss m).length := by
  obtain ⟨_, hr⟩ := mem_circP.1 h
  cases hi : impP ss m with
  | nil => exact (hr (fun _ => False) (by rw [hi]; simp) (fun _ h => h.elim)).elim
  | cons a r => simp
theorem impStep_keeps {ss : List Sc} {imps : Nat → List Nat} {s : Nat} {out : List Nat} {x : It} {m : Nat} (h : m ∈ out) : m ∈ impStep ss imps s out x := by
  unfold impStep
  split
  · split
    · exact h
    · exact List.mem_append_left _ h
  · exact h
theorem impStep_has {ss : List Sc} {s : Nat} {out : List Nat} {x : It} {m : Nat} (hk : x.kind = 3) (ht : targetP ss s x.name = (m : Int)) : m ∈ impStep ss (impP ss) s out x := by
  have ht' : targetF ss (impP ss) s x.name = (m : Int) := ht
  unfold impStep
  rw [if_pos hk, ht']
  split
  · rename_i h
    rcases h with h | h
    · omega
    · simpa using h
  · simp
theorem impUp_has {ss : List Sc} {s k m : Nat} {x : It} {xs : List It} (hx : xs[k]? = some x) (hk : x.kind = 3) (ht : targetP ss s x.name = (m : Int)) : ∀ n, k < n → m ∈ impUp ss (impP ss) s xs n
  | 0, h => by omega
  | n + 1, h => by
    cases hy : xs[n]? with
    | none =>
      have hkn : k ≠ n := by rintro rfl; rw [hx] at hy; cases hy
      have : impUp ss (impP ss) s xs (n + 1) = impUp ss (impP ss) s xs n := by
        unfold impUp
        rw [List.take_add_one, hy]
        simp
      rw [this]
      exact impUp_has hx hk ht n (by omega)
    | some y =>
      rw [impUp_snoc hy]
      by_cases hkn : k = n
      · subst hkn
        rw [hx] at hy
        cases hy
        exact impStep_has hk ht
      · exact impStep_keeps (impUp_has hx hk ht n (by omega))
end Go.Proofs.YtoijapbffhkbbaaDoor

namespace Go.Proofs.YtoijapbffhkbbaaDoor
open Go Go.RowKit Sg
theorem wf64 {a : Int} (h : I64 a) : (Lit.int .i64 a).wf = true := WalkArith.wf_i64 h
theorem item_name {ss : List Sc} (hv : Valid ss) {i j : Nat} {c : Sc} {x : It} (hc : ss[i]? = some c) (hx : c.items[j]? = some x) : nameB x.name = true := by
  have hq : (i, j, x) ∈ placed 0 ss := mem_placed.2 ⟨c, Nat.zero_le _, by simpa using hc, hx⟩
  have hf : (i, x) ∈ flat 0 ss := by rw [← placed_flat]; exact List.mem_map.2 ⟨_, hq, rfl⟩
  have h1 := (hv.items.1 _ hf).1
  unfold itemB at h1
  simp only [Bool.and_eq_true] at h1
  exact h1.1.1
theorem far1 (W : World) {b o g k : Nat} (h : b ≠ g) (v : Value) : (W.setCell ⟨g, k, none⟩ v).cell? ⟨b, o, none⟩ = W.cell? ⟨b, o, none⟩ := World.cell?_of_block (a := ⟨b, o, none⟩) (Below.heap_setCell _ _ _ _ h)
theorem cell_three {W : World} {g b o : Nat} {v u0 u1 u2 : Value} (h : W.cell? ⟨b, o, none⟩ = some v) (hne : b ≠ g) : (((W.setCell ⟨g, 0, none⟩ u0).setCell ⟨g, 1, none⟩ u1).setCell ⟨g, 2, none⟩ u2).cell? ⟨b, o, none⟩ = some v := by
  rw [far1 _ hne, far1 _ hne, far1 _ hne]
  exact h
theorem tgt_in {ss : List Sc} (hv : Valid ss) {i j : Nat} {c : Sc} {x : It} {z : Int} {ls : List Int} (hc : ss[i]? = some c) (hx : c.items[j]? = some x) (hk : x.kind = 3) (hz : z = targetP ss i x.name) (hl : ls = natInts (impP ss i)) : z < 0 ∨ ∃ k : Nat, ls[k]? = some z := by
  rcases target_ok hv i x.name with h1 | ⟨m, h1, _⟩
  · exact .inl (by rw [hz, h1]; decide)
  · have hm : m ∈ impP ss i := by
      rw [impP_eq hv.climbs]
      have hit : (itemsP ss i)[j]? = some x := by unfold itemsP; rw [hc]; exact hx
      exact impUp_has hit hk h1 _ (List.getElem?_eq_some_iff.1 hit).1
    obtain ⟨k, hk⟩ := List.getElem?_of_mem hm
    exact .inr ⟨k, by rw [hl, hz, h1]; unfold natInts; rw [List.getElem?_map, hk]; rfl⟩
theorem tgt_step {ls : List Int} {k : Nat} {z z1 : Int} (h : false = true ↔ (z < 0 ∨ ∃ j : Nat, j < k ∧ ls[j]? = some z)) (h1 : ls[k]? = some z1) : (z1 == z) = true ↔ (z < 0 ∨ ∃ j : Nat, j < k + 1 ∧ ls[j]? = some z) := by
  constructor
  · intro e
    have : z1 = z := by simpa using e
    exact .inr ⟨k, by omega, by rw [h1, this]⟩
  · rintro (h2 | ⟨j, hj, h2⟩)
    · exact absurd (h.2 (.inl h2)) (by simp)
    · by_cases hjk : j = k
      · subst hjk
        rw [h1] at h2
        simpa using h2
      · exact absurd (h.2 (.inr ⟨j, by omega, h2⟩)) (by simp)
set_option maxRecDepth 100000 in
set_option maxHeartbeats 4000000 in
theorem lawTarget {w : World} {oa : Option Addr} {len cap : Nat} (h : HoldsBytes w oa len) (hlc : len ≤ cap) (hE : NameErrs w) :
    Calls Tryd.prog 11 #[.slice oa len cap] w fun e w' => e = .returned (.bool true) ∧ Below w.heap.size w w' := by
  by_cases hn : (1048576 : Int) < (len : Int)
  · clear h hE
    go_enter Tryd.func11, Tryd.ntmps11
    go_wp2
    go_ret
    exact ⟨rfl, Below.refl _ _⟩
  · have C := Lib.hid (drawImportTarget_any h (by omega) hlc)
    have HE := Lib.hid hE
    clear h hE hlc
    go_enter Tryd.func11, Tryd.ntmps11
    go_wp2_with fail
    refine C.out.mono ?_
    rintro e w1 ⟨ss, ov, cv, a, b, rfl, hh, hl, haI, hbI, hb1⟩
    have HF := Lib.hid (hl.fair (by omega))
    have hbA := ((Below.refl w1.heap.size w1).alloc (Nat.le_refl _) (.cells #[.slice ov ss.length cv] 30)).alloc (by simp) (.cells #[.int .i64 a, .int .i64 b] 43)
    have HA := Lib.hid (belowS hb1 hbA)
    have HC := Lib.hid (hh.below hbA (Nat.le_refl _))
    have RB := Lib.hid ((Row.new w1 [.slice ov ss.length cv] 30).alloc (.cells #[.int .i64 a, .int .i64 b] 43))
    have RP : Hid (Row ((w1.alloc (.cells #[.slice ov ss.length cv] 30)).alloc (.cells #[.int .i64 a, .int .i64 b] 43)) (w1.heap.size + 1) 43 [.int .i64 a, .int .i64 b]) := Lib.hid (by
      have := Row.new (w1.alloc (.cells #[.slice ov ss.length cv] 30)) [.int .i64 a, .int .i64 b] 43
      rw [World.size_alloc] at this
      exact this)
    have HEA := Lib.hid (HE.out.at HA.out)
    have HWA := Lib.hid (wf64 haI)
    have HWB := Lib.hid (wf64 hbI)
    clear hh hl haI hbI hb1 hbA
    go_wp2_with fail
    refine (implImportTarget_any ss HF.out ov cv a b HWA.out HWB.out _ HC.out HEA.out.nodes.trees).mono ?_
    rintro e w2 ⟨z, rfl, hz, hb2⟩
    have Z := Lib.hid hz
    have X2 := Lib.hid hb2
    have r2 := (RB.out.below X2.out RB.out.lt).cell (i := 0) (v := .slice ov ss.length cv) (by rfl)
    clear hz hb2
    go_wp2_with fail
    refine (implCircles_any ss HF.out ov cv _ (HC.out.below X2.out (Nat.le_refl _)) (HEA.out.at X2.out).nodes.trees).mono ?_
    intro e w3 hgot
    obtain ⟨o1, c1, is, f, rfl, hv1, hi1, -, hb3⟩ := hgot.val
    have V1 := Lib.hid hv1
    have I1 := Lib.hid hi1
    have X3 := Lib.hid (belowS X2.out hb3)
    have r3 := (RB.out.below X3.out RB.out.lt).cell (i := 0) (v := .slice ov ss.length cv) (by rfl)
    clear hgot hv1 hi1 hb3 r2
    go_wp2_with fail
    refine (specCircles_any ss HF.out.fits ov cv _ (HC.out.below X3.out (Nat.le_refl _))).mono ?_
    intro e w4 hgot
    obtain ⟨o2, c2, js, f', rfl, hv2, hi2, hb4⟩ := hgot.val
    obtain ⟨rfl, rfl⟩ := hv2.same V1.out
    have I2 := Lib.hid hi2
    have I1b := Lib.hid (I1.out.below hb4)
    have X4 := Lib.hid (belowS X3.out hb4)
    have r4 := (RB.out.below X4.out RB.out.lt).cell (i := 0) (v := .slice ov ss.length cv) (by rfl)
    have p4 := (RP.out.below X4.out RP.out.lt).cell (i := 0) (v := .int .i64 a) (by rfl)
    have u4 := (RP.out.below X4.out RP.out.lt).cell (i := 1) (v := .int .i64 b) (by rfl)
    have hjl : js.length ≤ 1000 := by
      rcases V1.out with ⟨_, rfl, _⟩ | ⟨hok, rfl, _⟩
      · simp
      · have h1 := circUp_length ss ss.length
        have h2 := hok.count.2
        rw [natInts_length]
        unfold circP
        omega
    have hff : (f' != f') = false := by simp
    clear hgot hv2 hi2 hb4 r3
    go_wp2_with fail
    refine (specImportTarget_any ss HF.out.fits ov cv a b _ (HC.out.below X4.out (Nat.le_refl _))).mono ?_
    rintro e w5 ⟨z', rfl, hz', hb5⟩
    obtain rfl := hz'.same Z.out
    have X5 := Lib.hid (belowS X4.out hb5)
    have I1c := Lib.hid (I1b.out.below hb5)
    have I2c := Lib.hid (I2.out.below hb5)
    have hzz : (z' != z') = false := by simp
    clear hz' hb5 r4 p4 u4
    go_wp2_with fail
    refine (sgSame_any js js o1 o2 c1 c2 _ (by omega) (by omega) I1c.out I2c.out).mono ?_
    rintro e w6 ⟨t, rfl, ht, hb6⟩
    obtain rfl : t = true := ht.2 rfl
    have X6 := Lib.hid (belowS X5.out hb6)
    have I1d := Lib.hid (I1c.out.below hb6)
    clear ht hb6
    go_wp2
    go_loopw [65] (fun i wr => ∃ k : Nat, i = .int .i64 k ∧ k ≤ js.length ∧ Hid (Below w6.heap.size w6 wr)) (fun i _ => js.length - (intOf i).toNat)
    case atStart => exact ⟨0, rfl, Nat.zero_le _, Lib.hid (Below.refl _ _)⟩
    case round =>
      obtain ⟨k, rfl, hk, HW⟩ := hrel
      have X7 := Lib.hid (belowS X6.out HW.out)
      have r7 := (RB.out.below X7.out RB.out.lt).cell (i := 0) (v := .slice ov ss.length cv) (by rfl)
      by_cases hlt : k < js.length
      · obtain ⟨hv, hjs⟩ : Valid ss ∧ js = natInts (circP ss) := by
          rcases V1.out with ⟨_, h2, _⟩ | ⟨h1, h2, _⟩
          · rw [h2] at hlt; simp at hlt
          · exact ⟨h1, h2⟩
        obtain ⟨m, hm⟩ : ∃ m, (circP ss)[k]? = some m := ⟨_, List.getElem?_eq_getElem (by rw [hjs, natInts_length] at hlt; exact hlt)⟩
        have hmI : js[k]? = some (m : Int) := by rw [hjs]; unfold natInts; rw [List.getElem?_map, hm]; rfl
        have HM := Lib.hid (List.mem_of_getElem? hm)
        have HHS : Hid (HasScope ss (m : Int)) := Lib.hid ⟨hv, by omega, by have := (mem_circP.1 HM.out).1; omega⟩
        obtain ⟨b2, f2, rfl, hb2, q2⟩ := (I1d.out.below HW.out).at (by omega)
        have e0 := q2 k _ hmI
        clear hm hmI hb2 q2 hjs hv
        go_wp2_with fail
        refine (implImportedScopes_any ss HF.out ov cv (m : Int) _ (HC.out.below X7.out (Nat.le_refl _)) (HEA.out.at X7.out).nodes).mono ?_
        intro e w8 hgot
        obtain ⟨o3, c3, ls, g, rfl, hv3, -, -, hb8⟩ := hgot.val
        have hpos : 0 < ls.length := by
          rcases hv3 with ⟨h1, _⟩ | ⟨_, h2, _⟩
          · exact absurd HHS.out h1
          · rw [h2, natInts_length, Int.toNat_natCast]
            exact circ_imports HM.out
        have HW8 := Lib.hid (belowS HW.out hb8)
        clear hgot hv3 hb8 r7 e0
        go_wp2
        go_roundw
        case rel => exact ⟨k + 1, by go_num, by omega, HW8⟩
        case measure => simp only [intOf]; omega
      · obtain rfl : k = js.length := by omega
        have p7 := (RP.out.below X7.out RP.out.lt).cell (i := 0) (v := .int .i64 a) (by rfl)
        have u7 := (RP.out.below X7.out RP.out.lt).cell (i := 1) (v := .int .i64 b) (by rfl)
        have r8 := r7
        go_wp2_with fail
        refine (implItemAt_any ss HF.out ov cv a b HWA.out HWB.out _ (HC.out.below X7.out (Nat.le_refl _)) (HEA.out.at X7.out).nodes.trees).mono ?_
        rintro e w9 ⟨x, ok, rfl, hcase, hb9⟩
        have HCS := Lib.hid hcase
        have hbX := hb9.alloc hb9.size (.cells #[.int .i64 x.kind, .string x.name, .int .i64 x.scope] 57)
        have X9 := Lib.hid (belowS X7.out hbX)
        have RX := Lib.hid (Row.new w9 [.int .i64 x.kind, .string x.name, .int .i64 x.scope] 57)
        have x0 := RX.out.cell (i := 0) (v := .int .i64 x.kind) (by rfl)
        have x1 := RX.out.cell (i := 1) (v := .string x.name) (by rfl)
        clear hcase hb9 hbX r7 r8 p7 u7
        unfold itV
        by_cases hkind : Valid ss ∧ itemAtP ss a b = some x ∧ ok = true ∧ x.kind = 3
        · obtain ⟨hv, hx, rfl, hk3⟩ := hkind
          obtain ⟨i, j, c, rfl, rfl, hc, hxc⟩ := itemAtP_some hx
          have HZ : Hid (z' = targetP ss i x.name) := Lib.hid (by
            rcases Z.out with ⟨_, y, hy, _, h2⟩ | ⟨h1, _⟩
            · rw [hx] at hy
              cases hy
              rw [h2, Int.toNat_natCast]
            · exact absurd ⟨hv, x, hx, hk3⟩ h1)
          have hil := (List.getElem?_eq_some_iff.1 hc).1
          have HOW : Hid (ownOk ss (i : Int) x.name) := Lib.hid ⟨⟨hv, by omega, by omega⟩, item_name hv hc hxc⟩
          have HV := Lib.hid hv
          have HK3 := Lib.hid hk3
          have HSC := Lib.hid hc
          have HXC := Lib.hid hxc
          have hkk : (x.kind != 3) = false := by simp [hk3]
          have r9 := (RB.out.below X9.out RB.out.lt).cell (i := 0) (v := .slice ov ss.length cv) (by rfl)
          have p9 := (RP.out.below X9.out RP.out.lt).cell (i := 0) (v := .int .i64 (i : Int)) (by rfl)
          clear hv hk3 hc hxc hx
          go_wp2_with fail
          refine (implOwn_any ss HF.out ov cv (i : Int) x.name _ (HC.out.below X9.out (Nat.le_refl _)) (HEA.out.at X9.out)).mono ?_
          intro e w10 hgot
          obtain ⟨oM, cM, ps, bM, rfl, hvM, hpM, -, hb10⟩ := hgot.val
          obtain ⟨hps, rfl⟩ : ps = ownP ss i x.name ∧ bM = true := by
            rcases hvM with ⟨h1, _⟩ | ⟨_, h2, h3⟩
            · exact absurd HOW.out h1
            · exact ⟨by rw [h2, Int.toNat_natCast], h3⟩
          have X10 := Lib.hid (belowS X9.out hb10)
          have HPM := Lib.hid hpM
          have HX10 := Lib.hid hb10
          have r10 := (RB.out.below X10.out RB.out.lt).cell (i := 0) (v := .slice ov ss.length cv) (by rfl)
          have p10 := (RP.out.below X10.out RP.out.lt).cell (i := 0) (v := .int .i64 (i : Int)) (by rfl)
          have y1 := (RX.out.below hb10 RX.out.lt).cell (i := 1) (v := .string x.name) (by rfl)
          obtain ⟨bb, off, rfl, hbb, hcell⟩ := (HC.out.below X10.out (Nat.le_refl _)).at (by omega)
          obtain ⟨oi, ci, a0, -, -⟩ := hcell i c HSC.out
          have HPS := Lib.hid hps
          clear hgot hvM hpM hps hb10 hcell r9 p9 x0 x1 hkk
          by_cases hpos : 0 < ps.length
          · have HM : Hid (meantP ss i x.name = ps) := Lib.hid (by rw [meantP_own (isEmpty_pos (by rw [← HPS.out]; exact hpos)), HPS.out])
            have hq0 : (((ps.length : Nat) : Int) == 0) = false := by
              have : (((ps.length : Nat) : Int)) ≠ 0 := by omega
              simpa using this
            by_cases hone : ps.length = 1
            · obtain ⟨q, hq⟩ := List.length_eq_one_iff.1 hone
              have hmq : meantP ss i x.name = [q] := by rw [HM.out, hq]
              obtain ⟨i', j', c', y, rfl, hc', hy⟩ := meant_isPlace q (by rw [hmq]; exact List.mem_singleton.2 rfl)
              have HT : Hid (z' = y.scope) := Lib.hid (by rw [HZ.out, targetP_one hmq, scopeAt_of hc' hy])
              obtain ⟨b3, f3, rfl, hb3, q3⟩ := HPM.out.at (by omega)
              obtain ⟨s1, s2⟩ := q3 0 ((i' : Int), (j' : Int)) (by rw [hq]; rfl)
              simp only [Nat.zero_mul, Nat.add_zero] at s1 s2
              have HWI : Hid ((Lit.int .i64 (i' : Int)).wf = true) := Lib.hid (wf_small (by have h1 := (List.getElem?_eq_some_iff.1 hc').1; have h2 := HV.out.count.2; omega))
              have HWJ : Hid ((Lit.int .i64 (j' : Int)).wf = true) := Lib.hid (wf_small (by have h1 := (List.getElem?_eq_some_iff.1 hy).1; have h2 := HV.out.five c' (List.mem_of_getElem? hc'); omega))
              have HIT : Hid (itemAtP ss (i' : Int) (j' : Int) = some y) := Lib.hid (by rw [itemAtP_nat hc']; exact hy)
              have s0 := (RB.out.below X10.out RB.out.lt).cell (i := 0) (v := .slice (some ⟨bb, off, none⟩) ss.length cv) (by rfl)
              clear hmq hc' hy q3 hb3 hq
              go_upto_region 25 with (fail)
              refine wp_region_kept (S := fun w' => w'.cell? ⟨w1.heap.size, 0, none⟩ = some (.slice (some ⟨bb, off, none⟩) ss.length cv) ∧ w'.cell? ⟨b3, f3, none⟩ = some (.int .i64 (i' : Int)) ∧ w'.cell? ⟨b3, f3 + 1, none⟩ = some (.int .i64 (j' : Int))) 20 (by kernel_rfl) ?_
              have hS0 := And.intro (cell_drew s0) (And.intro (cell_drew s1) (cell_drew s2))
              refine KeptAny.take (i := 0) (v := ?_) (by kernel_rfl) rfl rfl (by kernel_rfl) (by kernel_rfl) (by kernel_rfl) (fun _ _ _ h => h) (by rfl) (fun w' hw' => ?_) (fun _ => rfl) hS0 ?_
              rotate_left
              · (obtain ⟨g0, g1, g2⟩ := hw'; go_simp; try with_reducible rfl)
              refine KeptAny.take (i := 1) (v := ?_) (by kernel_rfl) rfl rfl (by kernel_rfl) (by kernel_rfl) (by kernel_rfl) (fun _ _ _ h => h) (by rfl) (fun w' hw' => ?_) (fun _ => rfl) hS0 ?_
              rotate_left
              · (obtain ⟨g0, g1, g2⟩ := hw'; go_simp; try with_reducible rfl)
              refine KeptAny.take (i := 2) (v := ?_) (by kernel_rfl) rfl rfl (by kernel_rfl) (by kernel_rfl) (by kernel_rfl) (fun _ _ _ h => h) (by rfl) (fun w' hw' => ?_) (fun _ => rfl) hS0 ?_
              rotate_left
              · (obtain ⟨g0, g1, g2⟩ := hw'; go_simp; try with_reducible rfl)
              refine KeptAny.take (i := 3) (v := ?_) (by kernel_rfl) rfl rfl (by kernel_rfl) (by kernel_rfl) (by kernel_rfl) (fun _ _ _ h => h) (by rfl) (fun w' hw' => ?_) (fun _ => rfl) hS0 ?_
              rotate_left
              · (obtain ⟨g0, g1, g2⟩ := hw'; go_simp; try with_reducible rfl)
              have HS0 := Lib.hid hS0
              clear hS0 s0 s1 s2
              refine KeptAny.two (i := 4) (j := 8) (by kernel_rfl) ⟨_, rfl, by rfl, fun K hK => ?_⟩ ⟨_, rfl, by rfl, fun K hK => ?_⟩
              · go_simp
                refine ⟨trivial, ?_⟩
                refine ((callsIn_wide (n := 5)).2 (implItemAt_any ss HF.out (some ⟨bb, off, none⟩) cv (i' : Int) (j' : Int) HWI.out HWJ.out _ (HC.out.below X10.out.drew (Nat.le_refl _)) (HEA.out.at X10.out.drew).nodes.trees)).mono ?_
                rintro e w12 ⟨y', ok', rfl, hcase, hb12⟩
                obtain rfl : y' = y := by
                  rcases hcase with ⟨_, h2, _⟩ | ⟨h2, _⟩
                  · rw [HIT.out] at h2
                    exact (Option.some.inj h2).symm
                  · exact absurd ⟨HV.out, by rw [HIT.out]; rfl⟩ h2
                have X12 := Lib.hid (belowS X10.out.drew hb12)
                have hS4 := And.intro (cell_grow hb12 HS0.out.1) (And.intro (cell_grow hb12 HS0.out.2.1) (cell_grow hb12 HS0.out.2.2))
                clear hcase
                unfold itV
                refine hK.out _ _ hS4 (fun _ => ?_)
                clear hK
                refine KeptAny.take (i := 5) (v := ?_) (by kernel_rfl) rfl rfl (by kernel_rfl) (by kernel_rfl) (by kernel_rfl) (fun _ _ _ h => h) (by rfl) (fun w' hw' => ?_) (fun _ => rfl) hS4 ?_
                rotate_left
                · (obtain ⟨g0, g1, g2⟩ := hw'; go_simp; try with_reducible rfl)
                refine KeptAny.take (i := 6) (v := ?_) (by kernel_rfl) rfl rfl (by kernel_rfl) (by kernel_rfl) (by kernel_rfl) (fun _ _ _ h => h) (by rfl) (fun w' hw' => ?_) (fun _ => rfl) hS4 ?_
                rotate_left
                · (obtain ⟨g0, g1, g2⟩ := hw'; go_simp; try with_reducible rfl)
                refine KeptAny.take (i := 7) (v := ?_) (by kernel_rfl) rfl rfl (by kernel_rfl) (by kernel_rfl) (by kernel_rfl) (fun _ _ _ h => h) (by rfl) (fun w' hw' => ?_) (fun _ => rfl) hS4 ?_
                rotate_left
                · (obtain ⟨g0, g1, g2⟩ := hw'; go_simp; try with_reducible rfl)
                refine KeptAny.one (i := 8) (by kernel_rfl) rfl (by rfl) (fun K hK => ?_)
                go_simp
                refine hK.out _ _ ⟨cell_grow ((Below.refl _ _).alloc (Nat.le_refl _) _) hS4.1, cell_grow ((Below.refl _ _).alloc (Nat.le_refl _) _) hS4.2.1, cell_grow ((Below.refl _ _).alloc (Nat.le_refl _) _) hS4.2.2⟩ (fun _ => ?_)
                clear hK
                refine KeptAny.one (i := 9) (by kernel_rfl) rfl (by rfl) (fun K hK => ?_)
                go_simp
                refine hK.out _ _ ⟨cell_grow ((Below.refl _ _).alloc (Nat.le_refl _) _) hS4.1, cell_grow ((Below.refl _ _).alloc (Nat.le_refl _) _) hS4.2.1, cell_grow ((Below.refl _ _).alloc (Nat.le_refl _) _) hS4.2.2⟩ (fun _ => ?_)
                clear hK
                refine KeptAny.one (i := 10) (by kernel_rfl) rfl (by rfl) (fun K hK => ?_)
                go_simp
                refine hK.out _ _ ⟨cell_grow ((Below.refl _ _).alloc (Nat.le_refl _) _) hS4.1, cell_grow ((Below.refl _ _).alloc (Nat.le_refl _) _) hS4.2.1, cell_grow ((Below.refl _ _).alloc (Nat.le_refl _) _) hS4.2.2⟩ (fun _ => ?_)
                clear hK
                refine KeptAny.done (by kernel_rfl) ?_ _
                have XD := Lib.hid (belowS X12.out ((Below.refl w12.heap.size w12).alloc (Nat.le_refl _) (.cells #[.int .i64 y'.kind, .string y'.name, .int .i64 y'.scope] 57)))
                have RD := Lib.hid (Row.new w12 [.int .i64 y'.kind, .string y'.name, .int .i64 y'.scope] 57)
                clear hS4 hb12
                have d2 := RD.out.cell (i := 2) (v := .int .i64 y'.scope) (by rfl)
                have rD := (RB.out.below XD.out RB.out.lt).cell (i := 0) (v := .slice (some ⟨bb, off, none⟩) ss.length cv) (by rfl)
                have pD := (RP.out.below XD.out RP.out.lt).cell (i := 0) (v := .int .i64 (i : Int)) (by rfl)
                go_wp2_with fail
                refine (implImportedScopes_any ss HF.out (some ⟨bb, off, none⟩) cv (i : Int) _ (HC.out.below XD.out (Nat.le_refl _)) (HEA.out.at XD.out).nodes).mono ?_
                intro e w14 hgot
                obtain ⟨oL, cL, ls, g, rfl, hvL, hiL, -, hbL⟩ := hgot.val
                have HL : Hid (ls = natInts (impP ss i)) := Lib.hid (by
                  rcases hvL with ⟨h1, _⟩ | ⟨_, h2, _⟩
                  · exact absurd HOW.out.1 h1
                  · rw [h2, Int.toNat_natCast])
                have X14 := Lib.hid (belowS XD.out hbL)
                have IL := Lib.hid hiL
                have HIN := Lib.hid (tgt_in HV.out HSC.out HXC.out HK3.out HZ.out HL.out)
                have RD2 := Lib.hid (RD.out.below hbL RD.out.lt)
                have hll : ls.length ≤ 1000 := by
                  have h2 := impP_length HV.out i
                  rw [HL.out, natInts_length]
                  omega
                clear hgot hvL hiL hbL d2 rD pD
                go_wp2
                go_loopw [23, 149] (fun v i wr => ∃ (k : Nat) (t : Bool), i = .int .i64 k ∧ v = .bool t ∧ k ≤ ls.length ∧ Hid (t = true ↔ (z' < 0 ∨ ∃ j : Nat, j < k ∧ ls[j]? = some z')) ∧ Hid (Below w14.heap.size w14 wr)) (fun _ i _ => ls.length - (intOf i).toNat)
                case atStart => exact ⟨0, _, rfl, rfl, Nat.zero_le _, Lib.hid (by simp), Lib.hid (Below.refl _ _)⟩
                case round =>
                  obtain ⟨k, t, rfl, rfl, hk, HI, HW⟩ := hrel
                  by_cases hlt : k < ls.length
                  · obtain ⟨z1, hz1⟩ : ∃ z1, ls[k]? = some z1 := ⟨_, List.getElem?_eq_getElem hlt⟩
                    obtain ⟨b5, f5, rfl, hb5, q5⟩ := (IL.out.below HW.out).at (by omega)
                    have e0 := q5 k _ hz1
                    have HZ1 := Lib.hid hz1
                    clear hz1 hb5 q5
                    cases t
                    · have HI2 : Hid ((z1 == z') = true ↔ (z' < 0 ∨ ∃ j : Nat, j < k + 1 ∧ ls[j]? = some z')) := Lib.hid (tgt_step HI.out HZ1.out)
                      go_wp2
                      go_roundw
                      case rel => exact ⟨k + 1, _, by go_num, rfl, by omega, HI2, HW⟩
                      case measure => simp only [intOf]; omega
                    · have HI2 : Hid (true = true ↔ (z' < 0 ∨ ∃ j : Nat, j < k + 1 ∧ ls[j]? = some z')) := Lib.hid ⟨fun _ => (HI.out.1 rfl).imp id fun ⟨j, h1, h2⟩ => ⟨j, by omega, h2⟩, fun _ => rfl⟩
                      go_wp2
                      go_roundw
                      case rel => exact ⟨k + 1, _, by go_num, rfl, by omega, HI2, HW⟩
                      case measure => simp only [intOf]; omega
                  · obtain rfl : k = ls.length := by omega
                    obtain rfl : t = true := HI.out.2 (HIN.out.imp id fun ⟨j, hj⟩ => ⟨j, (List.getElem?_eq_some_iff.1 hj).1, hj⟩)
                    have d2 := (RD2.out.below HW.out RD2.out.lt).cell (i := 2) (v := .int .i64 y'.scope) (by rfl)
                    have hyz : (y'.scope == z') = true := by rw [HT.out]; simp
                    go_wp2
                    go_ret
                    exact ⟨rfl, belowS HA.out (belowS X14.out HW.out)⟩
              · go_simp
                have hbz := Below.alloc (Below.refl w10.drew.heap.size w10.drew) (Nat.le_refl _) (.cells #[.int .i64 0, .string ⟨#[]⟩, .int .i64 0] 57)
                have hSz := And.intro (cell_grow hbz HS0.out.1) (And.intro (cell_grow hbz HS0.out.2.1) (cell_grow hbz HS0.out.2.2))
                have XZ := Lib.hid (belowS X10.out.drew hbz)
                have RZ : Hid (Row (w10.drew.alloc (.cells #[.int .i64 0, .string ⟨#[]⟩, .int .i64 0] 57)) w10.heap.size 57 [.int .i64 0, .string ⟨#[]⟩, .int .i64 0]) := Lib.hid (Row.new w10.drew [.int .i64 0, .string ⟨#[]⟩, .int .i64 0] 57)
                have l0 : w1.heap.size ≠ w10.heap.size := Nat.ne_of_lt (World.block_lt_of_cell? _ _ HS0.out.1)
                have l1 : b3 ≠ w10.heap.size := Nat.ne_of_lt (World.block_lt_of_cell? _ _ HS0.out.2.1)
                have HLN := Lib.hid (And.intro l0 l1)
                have HGE := Lib.hid X10.out.size
                clear hbz l0 l1
                refine hK.out _ _ hSz (fun _ => ?_)
                clear hK
                refine KeptAny.one (i := 4) (by kernel_rfl) rfl (by rfl) (fun K hK => ?_)
                go_simp
                refine ⟨trivial, ?_⟩
                refine ((callsIn_wide (n := 5)).2 (implItemAt_any ss HF.out (some ⟨bb, off, none⟩) cv (i' : Int) (j' : Int) HWI.out HWJ.out _ (HC.out.below XZ.out (Nat.le_refl _)) (HEA.out.at XZ.out).nodes.trees)).mono ?_
                rintro e w12 ⟨y', ok', rfl, hcase, hb12⟩
                obtain rfl : y' = y := by
                  rcases hcase with ⟨_, h2, _⟩ | ⟨h2, _⟩
                  · rw [HIT.out] at h2
                    exact (Option.some.inj h2).symm
                  · exact absurd ⟨HV.out, by rw [HIT.out]; rfl⟩ h2
                have X12 := Lib.hid (belowS XZ.out hb12)
                have RZ2 := RZ.out.below hb12 RZ.out.lt
                have hS4 := And.intro (cell_grow hb12 hSz.1) (And.intro (cell_grow hb12 hSz.2.1) (cell_grow hb12 hSz.2.2))
                have R1 := RZ2.set 0 (.int .i64 y'.kind)
                have R2 := R1.set 1 (.string y'.name)
                have RD := Lib.hid (R2.set 2 (.int .i64 y'.scope))
                have n0 := RZ2.cell (i := 0) (v := .int .i64 0) (by rfl)
                have n1 := R1.cell (i := 1) (v := .string ⟨#[]⟩) (by rfl)
                have n2 := R2.cell (i := 2) (v := .int .i64 0) (by rfl)
                have f0 := RZ2.frozen 0
                have f1 := R1.frozen 1
                have f2 := R2.frozen 2
                have XD := Lib.hid (((X12.out.setCell (p := ⟨w10.heap.size, 0, none⟩) HGE.out (.int .i64 y'.kind)).setCell (p := ⟨w10.heap.size, 1, none⟩) HGE.out (.string y'.name)).setCell (p := ⟨w10.heap.size, 2, none⟩) HGE.out (.int .i64 y'.scope))
                have HS5 := Lib.hid (And.intro (cell_three (g := w10.heap.size) (u0 := .int .i64 y'.kind) (u1 := .string y'.name) (u2 := .int .i64 y'.scope) hS4.1 HLN.out.1) (And.intro (cell_three (g := w10.heap.size) (u0 := .int .i64 y'.kind) (u1 := .string y'.name) (u2 := .int .i64 y'.scope) hS4.2.1 HLN.out.2) (cell_three (g := w10.heap.size) (u0 := .int .i64 y'.kind) (u1 := .string y'.name) (u2 := .int .i64 y'.scope) hS4.2.2 HLN.out.2)))
                clear RZ2 R1 R2
                clear hcase hb12 hSz
                unfold itV
                refine hK.out _ _ hS4 (fun _ => ?_)
                clear hK
                refine KeptAny.take (i := 5) (v := ?_) (by kernel_rfl) rfl rfl (by kernel_rfl) (by kernel_rfl) (by kernel_rfl) (fun _ _ _ h => h) (by rfl) (fun w' hw' => ?_) (fun _ => rfl) hS4 ?_
                rotate_left
                · (obtain ⟨g0, g1, g2⟩ := hw'; go_simp; try with_reducible rfl)
                refine KeptAny.take (i := 6) (v := ?_) (by kernel_rfl) rfl rfl (by kernel_rfl) (by kernel_rfl) (by kernel_rfl) (fun _ _ _ h => h) (by rfl) (fun w' hw' => ?_) (fun _ => rfl) hS4 ?_
                rotate_left
                · (obtain ⟨g0, g1, g2⟩ := hw'; go_simp; try with_reducible rfl)
                refine KeptAny.take (i := 7) (v := ?_) (by kernel_rfl) rfl rfl (by kernel_rfl) (by kernel_rfl) (by kernel_rfl) (fun _ _ _ h => h) (by rfl) (fun w' hw' => ?_) (fun _ => rfl) hS4 ?_
                rotate_left
                · (obtain ⟨g0, g1, g2⟩ := hw'; go_simp; try with_reducible rfl)
                refine KeptAny.one (i := 9) (by kernel_rfl) rfl (by rfl) (fun K hK => ?_)
                go_simp
                refine hK.out _ _ HS5.out (fun _ => ?_)
                clear hK n0 n1 n2 f0 f1 f2 hS4
                refine KeptAny.one (i := 10) (by kernel_rfl) rfl (by rfl) (fun K hK => ?_)
                go_simp
                refine hK.out _ _ HS5.out (fun _ => ?_)
                clear hK
                refine KeptAny.done (by kernel_rfl) ?_ _
                have d2 := RD.out.cell (i := 2) (v := .int .i64 y'.scope) (by rfl)
                have rD := (RB.out.below XD.out RB.out.lt).cell (i := 0) (v := .slice (some ⟨bb, off, none⟩) ss.length cv) (by rfl)
                have pD := (RP.out.below XD.out RP.out.lt).cell (i := 0) (v := .int .i64 (i : Int)) (by rfl)
                go_wp2_with fail
                refine (implImportedScopes_any ss HF.out (some ⟨bb, off, none⟩) cv (i : Int) _ (HC.out.below XD.out (Nat.le_refl _)) (HEA.out.at XD.out).nodes).mono ?_
                intro e w14 hgot
                obtain ⟨oL, cL, ls, g, rfl, hvL, hiL, -, hbL⟩ := hgot.val
                have HL : Hid (ls = natInts (impP ss i)) := Lib.hid (by
                  rcases hvL with ⟨h1, _⟩ | ⟨_, h2, _⟩
                  · exact absurd HOW.out.1 h1
                  · rw [h2, Int.toNat_natCast])
                have X14 := Lib.hid (belowS XD.out hbL)
                have IL := Lib.hid hiL
                have HIN := Lib.hid (tgt_in HV.out HSC.out HXC.out HK3.out HZ.out HL.out)
                have RD2 := Lib.hid (RD.out.below hbL RD.out.lt)
                have hll : ls.length ≤ 1000 := by
                  have h2 := impP_length HV.out i
                  rw [HL.out, natInts_length]
                  omega
                clear hgot hvL hiL hbL d2 rD pD
                go_wp2
                go_loopw [23, 149] (fun v i wr => ∃ (k : Nat) (t : Bool), i = .int .i64 k ∧ v = .bool t ∧ k ≤ ls.length ∧ Hid (t = true ↔ (z' < 0 ∨ ∃ j : Nat, j < k ∧ ls[j]? = some z')) ∧ Hid (Below w14.heap.size w14 wr)) (fun _ i _ => ls.length - (intOf i).toNat)
                case atStart => exact ⟨0, _, rfl, rfl, Nat.zero_le _, Lib.hid (by simp), Lib.hid (Below.refl _ _)⟩
                case round =>
                  obtain ⟨k, t, rfl, rfl, hk, HI, HW⟩ := hrel
                  by_cases hlt : k < ls.length
                  · obtain ⟨z1, hz1⟩ : ∃ z1, ls[k]? = some z1 := ⟨_, List.getElem?_eq_getElem hlt⟩
                    obtain ⟨b5, f5, rfl, hb5, q5⟩ := (IL.out.below HW.out).at (by omega)
                    have e0 := q5 k _ hz1
                    have HZ1 := Lib.hid hz1
                    clear hz1 hb5 q5
                    cases t
                    · have HI2 : Hid ((z1 == z') = true ↔ (z' < 0 ∨ ∃ j : Nat, j < k + 1 ∧ ls[j]? = some z')) := Lib.hid (tgt_step HI.out HZ1.out)
                      go_wp2
                      go_roundw
                      case rel => exact ⟨k + 1, _, by go_num, rfl, by omega, HI2, HW⟩
                      case measure => simp only [intOf]; omega
                    · have HI2 : Hid (true = true ↔ (z' < 0 ∨ ∃ j : Nat, j < k + 1 ∧ ls[j]? = some z')) := Lib.hid ⟨fun _ => (HI.out.1 rfl).imp id fun ⟨j, h1, h2⟩ => ⟨j, by omega, h2⟩, fun _ => rfl⟩
                      go_wp2
                      go_roundw
                      case rel => exact ⟨k + 1, _, by go_num, rfl, by omega, HI2, HW⟩
                      case measure => simp only [intOf]; omega
                  · obtain rfl : k = ls.length := by omega
                    obtain rfl : t = true := HI.out.2 (HIN.out.imp id fun ⟨j, hj⟩ => ⟨j, (List.getElem?_eq_some_iff.1 hj).1, hj⟩)
                    have d2 := (RD2.out.below HW.out RD2.out.lt).cell (i := 2) (v := .int .i64 y'.scope) (by rfl)
                    have hyz : (y'.scope == z') = true := by rw [HT.out]; simp
                    go_wp2
                    go_ret
                    exact ⟨rfl, belowS HA.out (belowS X14.out HW.out)⟩
            · have hne : (((ps.length : Nat) : Int) != 1) = true := by
                have : (((ps.length : Nat) : Int)) ≠ 1 := by omega
                simpa using this
              have hzm : z' = -1 := by rw [HZ.out]; exact targetP_not (by rw [HM.out]; exact hone)
              subst hzm
              go_wp2
              go_ret
              exact ⟨rfl, belowS HA.out X10.out⟩
          · have HEM : Hid ((ownP ss i x.name).isEmpty = true) := Lib.hid (isEmpty_zero (by rw [← HPS.out]; exact hpos))
            have hz0 : ps.length = 0 := by omega
            rcases HV.out.climbs.cases HSC.out with ⟨h00, hp1, hp2⟩ | ⟨p, hp1, hlt2, hp2⟩
            · have hM := meantP_none HEM.out hp2
              have hzm : z' = -1 := by rw [HZ.out]; exact targetP_not (by rw [hM]; simp)
              rw [hp1] at a0
              subst hzm
              clear hp1 hp2 hM h00
              go_wp2
              go_ret
              exact ⟨rfl, belowS HA.out X10.out⟩
            · have HMP := Lib.hid (meantP_par HEM.out hp2)
              rw [hp1] at a0
              have HOP : Hid (ownOk ss (p : Int) x.name) := Lib.hid ⟨⟨HV.out, by omega, by omega⟩, HOW.out.2⟩
              clear hp1 hp2
              go_wp2_with fail
              refine (implLookUp_any ss HF.out (some ⟨bb, off, none⟩) cv (p : Int) x.name _ (HC.out.below X10.out (Nat.le_refl _)) (HEA.out.at X10.out)).mono ?_
              intro e w11 hgot
              obtain ⟨oQ, cQ, qs, bQ, rfl, hvQ, hpQ, -, hb11⟩ := hgot.val
              have HM : Hid (meantP ss i x.name = qs) := Lib.hid (by
                rcases hvQ with ⟨h1, _⟩ | ⟨_, h2, h3⟩
                · exact absurd HOP.out h1
                · rw [HMP.out, h2, Int.toNat_natCast])
              have X11 := Lib.hid (belowS X10.out hb11)
              have HPQ := Lib.hid hpQ
              clear hgot hvQ hpQ hb11 r10 p10 y1 a0
              by_cases hone : qs.length = 1
              · obtain ⟨q, hq⟩ := List.length_eq_one_iff.1 hone
                have hmq : meantP ss i x.name = [q] := by rw [HM.out, hq]
                obtain ⟨i', j', c', y, rfl, hc', hy⟩ := meant_isPlace q (by rw [hmq]; exact List.mem_singleton.2 rfl)
                have HT : Hid (z' = y.scope) := Lib.hid (by rw [HZ.out, targetP_one hmq, scopeAt_of hc' hy])
                obtain ⟨b3, f3, rfl, hb3, q3⟩ := HPQ.out.at (by omega)
                obtain ⟨s1, s2⟩ := q3 0 ((i' : Int), (j' : Int)) (by rw [hq]; rfl)
                simp only [Nat.zero_mul, Nat.add_zero] at s1 s2
                have HWI : Hid ((Lit.int .i64 (i' : Int)).wf = true) := Lib.hid (wf_small (by have h1 := (List.getElem?_eq_some_iff.1 hc').1; have h2 := HV.out.count.2; omega))
                have HWJ : Hid ((Lit.int .i64 (j' : Int)).wf = true) := Lib.hid (wf_small (by have h1 := (List.getElem?_eq_some_iff.1 hy).1; have h2 := HV.out.five c' (List.mem_of_getElem? hc'); omega))
                have HIT : Hid (itemAtP ss (i' : Int) (j' : Int) = some y) := Lib.hid (by rw [itemAtP_nat hc']; exact hy)
                have s0 := (RB.out.below X11.out RB.out.lt).cell (i := 0) (v := .slice (some ⟨bb, off, none⟩) ss.length cv) (by rfl)
                clear hmq hc' hy q3 hb3 hq
                go_upto_region 25 with (fail)
                refine wp_region_kept (S := fun w' => w'.cell? ⟨w1.heap.size, 0, none⟩ = some (.slice (some ⟨bb, off, none⟩) ss.length cv) ∧ w'.cell? ⟨b3, f3, none⟩ = some (.int .i64 (i' : Int)) ∧ w'.cell? ⟨b3, f3 + 1, none⟩ = some (.int .i64 (j' : Int))) 20 (by kernel_rfl) ?_
                have hS0 := And.intro (cell_drew s0) (And.intro (cell_drew s1) (cell_drew s2))
                refine KeptAny.take (i := 0) (v := ?_) (by kernel_rfl) rfl rfl (by kernel_rfl) (by kernel_rfl) (by kernel_rfl) (fun _ _ _ h => h) (by rfl) (fun w' hw' => ?_) (fun _ => rfl) hS0 ?_
                rotate_left
                · (obtain ⟨g0, g1, g2⟩ := hw'; go_simp; try with_reducible rfl)
                refine KeptAny.take (i := 1) (v := ?_) (by kernel_rfl) rfl rfl (by kernel_rfl) (by kernel_rfl) (by kernel_rfl) (fun _ _ _ h => h) (by rfl) (fun w' hw' => ?_) (fun _ => rfl) hS0 ?_
                rotate_left
                · (obtain ⟨g0, g1, g2⟩ := hw'; go_simp; try with_reducible rfl)
                refine KeptAny.take (i := 2) (v := ?_) (by kernel_rfl) rfl rfl (by kernel_rfl) (by kernel_rfl) (by kernel_rfl) (fun _ _ _ h => h) (by rfl) (fun w' hw' => ?_) (fun _ => rfl) hS0 ?_
                rotate_left
                · (obtain ⟨g0, g1, g2⟩ := hw'; go_simp; try with_reducible rfl)
                refine KeptAny.take (i := 3) (v := ?_) (by kernel_rfl) rfl rfl (by kernel_rfl) (by kernel_rfl) (by kernel_rfl) (fun _ _ _ h => h) (by rfl) (fun w' hw' => ?_) (fun _ => rfl) hS0 ?_
                rotate_left
                · (obtain ⟨g0, g1, g2⟩ := hw'; go_simp; try with_reducible rfl)
                have HS0 := Lib.hid hS0
                clear hS0 s0 s1 s2
                refine KeptAny.two (i := 4) (j := 8) (by kernel_rfl) ⟨_, rfl, by rfl, fun K hK => ?_⟩ ⟨_, rfl, by rfl, fun K hK => ?_⟩
                · go_simp
                  refine ⟨trivial, ?_⟩
                  refine ((callsIn_wide (n := 5)).2 (implItemAt_any ss HF.out (some ⟨bb, off, none⟩) cv (i' : Int) (j' : Int) HWI.out HWJ.out _ (HC.out.below X11.out.drew (Nat.le_refl _)) (HEA.out.at X11.out.drew).nodes.trees)).mono ?_
                  rintro e w12 ⟨y', ok', rfl, hcase, hb12⟩
                  obtain rfl : y' = y := by
                    rcases hcase with ⟨_, h2, _⟩ | ⟨h2, _⟩
                    · rw [HIT.out] at h2
                      exact (Option.some.inj h2).symm
                    · exact absurd ⟨HV.out, by rw [HIT.out]; rfl⟩ h2
                  have X12 := Lib.hid (belowS X11.out.drew hb12)
                  have hS4 := And.intro (cell_grow hb12 HS0.out.1) (And.intro (cell_grow hb12 HS0.out.2.1) (cell_grow hb12 HS0.out.2.2))
                  clear hcase
                  unfold itV
                  refine hK.out _ _ hS4 (fun _ => ?_)
                  clear hK
                  refine KeptAny.take (i := 5) (v := ?_) (by kernel_rfl) rfl rfl (by kernel_rfl) (by kernel_rfl) (by kernel_rfl) (fun _ _ _ h => h) (by rfl) (fun w' hw' => ?_) (fun _ => rfl) hS4 ?_
                  rotate_left
                  · (obtain ⟨g0, g1, g2⟩ := hw'; go_simp; try with_reducible rfl)
                  refine KeptAny.take (i := 6) (v := ?_) (by kernel_rfl) rfl rfl (by kernel_rfl) (by kernel_rfl) (by kernel_rfl) (fun _ _ _ h => h) (by rfl) (fun w' hw' => ?_) (fun _ => rfl) hS4 ?_
                  rotate_left
                  · (obtain ⟨g0, g1, g2⟩ := hw'; go_simp; try with_reducible rfl)
                  refine KeptAny.take (i := 7) (v := ?_) (by kernel_rfl) rfl rfl (by kernel_rfl) (by kernel_rfl) (by kernel_rfl) (fun _ _ _ h => h) (by rfl) (fun w' hw' => ?_) (fun _ => rfl) hS4 ?_
                  rotate_left
                  · (obtain ⟨g0, g1, g2⟩ := hw'; go_simp; try with_reducible rfl)
                  refine KeptAny.one (i := 8) (by kernel_rfl) rfl (by rfl) (fun K hK => ?_)
                  go_simp
                  refine hK.out _ _ ⟨cell_grow ((Below.refl _ _).alloc (Nat.le_refl _) _) hS4.1, cell_grow ((Below.refl _ _).alloc (Nat.le_refl _) _) hS4.2.1, cell_grow ((Below.refl _ _).alloc (Nat.le_refl _) _) hS4.2.2⟩ (fun _ => ?_)
                  clear hK
                  refine KeptAny.one (i := 9) (by kernel_rfl) rfl (by rfl) (fun K hK => ?_)
                  go_simp
                  refine hK.out _ _ ⟨cell_grow ((Below.refl _ _).alloc (Nat.le_refl _) _) hS4.1, cell_grow ((Below.refl _ _).alloc (Nat.le_refl _) _) hS4.2.1, cell_grow ((Below.refl _ _).alloc (Nat.le_refl _) _) hS4.2.2⟩ (fun _ => ?_)
                  clear hK
                  refine KeptAny.one (i := 10) (by kernel_rfl) rfl (by rfl) (fun K hK => ?_)
                  go_simp
                  refine hK.out _ _ ⟨cell_grow ((Below.refl _ _).alloc (Nat.le_refl _) _) hS4.1, cell_grow ((Below.refl _ _).alloc (Nat.le_refl _) _) hS4.2.1, cell_grow ((Below.refl _ _).alloc (Nat.le_refl _) _) hS4.2.2⟩ (fun _ => ?_)
                  clear hK
                  refine KeptAny.done (by kernel_rfl) ?_ _
                  have XD := Lib.hid (belowS X12.out ((Below.refl w12.heap.size w12).alloc (Nat.le_refl _) (.cells #[.int .i64 y'.kind, .string y'.name, .int .i64 y'.scope] 57)))
                  have RD := Lib.hid (Row.new w12 [.int .i64 y'.kind, .string y'.name, .int .i64 y'.scope] 57)
                  clear hS4 hb12
                  have d2 := RD.out.cell (i := 2) (v := .int .i64 y'.scope) (by rfl)
                  have rD := (RB.out.below XD.out RB.out.lt).cell (i := 0) (v := .slice (some ⟨bb, off, none⟩) ss.length cv) (by rfl)
                  have pD := (RP.out.below XD.out RP.out.lt).cell (i := 0) (v := .int .i64 (i : Int)) (by rfl)
                  go_wp2_with fail
                  refine (implImportedScopes_any ss HF.out (some ⟨bb, off, none⟩) cv (i : Int) _ (HC.out.below XD.out (Nat.le_refl _)) (HEA.out.at XD.out).nodes).mono ?_
                  intro e w14 hgot
                  obtain ⟨oL, cL, ls, g, rfl, hvL, hiL, -, hbL⟩ := hgot.val
                  have HL : Hid (ls = natInts (impP ss i)) := Lib.hid (by
                    rcases hvL with ⟨h1, _⟩ | ⟨_, h2, _⟩
                    · exact absurd HOW.out.1 h1
                    · rw [h2, Int.toNat_natCast])
                  have X14 := Lib.hid (belowS XD.out hbL)
                  have IL := Lib.hid hiL
                  have HIN := Lib.hid (tgt_in HV.out HSC.out HXC.out HK3.out HZ.out HL.out)
                  have RD2 := Lib.hid (RD.out.below hbL RD.out.lt)
                  have hll : ls.length ≤ 1000 := by
                    have h2 := impP_length HV.out i
                    rw [HL.out, natInts_length]
                    omega
                  clear hgot hvL hiL hbL d2 rD pD
                  go_wp2
                  go_loopw [23, 149] (fun v i wr => ∃ (k : Nat) (t : Bool), i = .int .i64 k ∧ v = .bool t ∧ k ≤ ls.length ∧ Hid (t = true ↔ (z' < 0 ∨ ∃ j : Nat, j < k ∧ ls[j]? = some z')) ∧ Hid (Below w14.heap.size w14 wr)) (fun _ i _ => ls.length - (intOf i).toNat)
                  case atStart => exact ⟨0, _, rfl, rfl, Nat.zero_le _, Lib.hid (by simp), Lib.hid (Below.refl _ _)⟩
                  case round =>
                    obtain ⟨k, t, rfl, rfl, hk, HI, HW⟩ := hrel
                    by_cases hlt : k < ls.length
                    · obtain ⟨z1, hz1⟩ : ∃ z1, ls[k]? = some z1 := ⟨_, List.getElem?_eq_getElem hlt⟩
                      obtain ⟨b5, f5, rfl, hb5, q5⟩ := (IL.out.below HW.out).at (by omega)
                      have e0 := q5 k _ hz1
                      have HZ1 := Lib.hid hz1
                      clear hz1 hb5 q5
                      cases t
                      · have HI2 : Hid ((z1 == z') = true ↔ (z' < 0 ∨ ∃ j : Nat, j < k + 1 ∧ ls[j]? = some z')) := Lib.hid (tgt_step HI.out HZ1.out)
                        go_wp2
                        go_roundw
                        case rel => exact ⟨k + 1, _, by go_num, rfl, by omega, HI2, HW⟩
                        case measure => simp only [intOf]; omega
                      · have HI2 : Hid (true = true ↔ (z' < 0 ∨ ∃ j : Nat, j < k + 1 ∧ ls[j]? = some z')) := Lib.hid ⟨fun _ => (HI.out.1 rfl).imp id fun ⟨j, h1, h2⟩ => ⟨j, by omega, h2⟩, fun _ => rfl⟩
                        go_wp2
                        go_roundw
                        case rel => exact ⟨k + 1, _, by go_num, rfl, by omega, HI2, HW⟩
                        case measure => simp only [intOf]; omega
                    · obtain rfl : k = ls.length := by omega
                      obtain rfl : t = true := HI.out.2 (HIN.out.imp id fun ⟨j, hj⟩ => ⟨j, (List.getElem?_eq_some_iff.1 hj).1, hj⟩)
                      have d2 := (RD2.out.below HW.out RD2.out.lt).cell (i := 2) (v := .int .i64 y'.scope) (by rfl)
                      have hyz : (y'.scope == z') = true := by rw [HT.out]; simp
                      go_wp2
                      go_ret
                      exact ⟨rfl, belowS HA.out (belowS X14.out HW.out)⟩
                · go_simp
                  have hbz := Below.alloc (Below.refl w11.drew.heap.size w11.drew) (Nat.le_refl _) (.cells #[.int .i64 0, .string ⟨#[]⟩, .int .i64 0] 57)
                  have hSz := And.intro (cell_grow hbz HS0.out.1) (And.intro (cell_grow hbz HS0.out.2.1) (cell_grow hbz HS0.out.2.2))
                  have XZ := Lib.hid (belowS X11.out.drew hbz)
                  have RZ : Hid (Row (w11.drew.alloc (.cells #[.int .i64 0, .string ⟨#[]⟩, .int .i64 0] 57)) w11.heap.size 57 [.int .i64 0, .string ⟨#[]⟩, .int .i64 0]) := Lib.hid (Row.new w11.drew [.int .i64 0, .string ⟨#[]⟩, .int .i64 0] 57)
                  have l0 : w1.heap.size ≠ w11.heap.size := Nat.ne_of_lt (World.block_lt_of_cell? _ _ HS0.out.1)
                  have l1 : b3 ≠ w11.heap.size := Nat.ne_of_lt (World.block_lt_of_cell? _ _ HS0.out.2.1)
                  have HLN := Lib.hid (And.intro l0 l1)
                  have HGE := Lib.hid X11.out.size
                  clear hbz l0 l1
                  refine hK.out _ _ hSz (fun _ => ?_)
                  clear hK
                  refine KeptAny.one (i := 4) (by kernel_rfl) rfl (by rfl) (fun K hK => ?_)
                  go_simp
                  refine ⟨trivial, ?_⟩
                  refine ((callsIn_wide (n := 5)).2 (implItemAt_any ss HF.out (some ⟨bb, off, none⟩) cv (i' : Int) (j' : Int) HWI.out HWJ.out _ (HC.out.below XZ.out (Nat.le_refl _)) (HEA.out.at XZ.out).nodes.trees)).mono ?_
                  rintro e w12 ⟨y', ok', rfl, hcase, hb12⟩
                  obtain rfl : y' = y := by
                    rcases hcase with ⟨_, h2, _⟩ | ⟨h2, _⟩
                    · rw [HIT.out] at h2
                      exact (Option.some.inj h2).symm
                    · exact absurd ⟨HV.out, by rw [HIT.out]; rfl⟩ h2
                  have X12 := Lib.hid (belowS XZ.out hb12)
                  have RZ2 := RZ.out.below hb12 RZ.out.lt
                  have hS4 := And.intro (cell_grow hb12 hSz.1) (And.intro (cell_grow hb12 hSz.2.1) (cell_grow hb12 hSz.2.2))
                  have R1 := RZ2.set 0 (.int .i64 y'.kind)
                  have R2 := R1.set 1 (.string y'.name)
                  have RD := Lib.hid (R2.set 2 (.int .i64 y'.scope))
                  have n0 := RZ2.cell (i := 0) (v := .int .i64 0) (by rfl)
                  have n1 := R1.cell (i := 1) (v := .string ⟨#[]⟩) (by rfl)
                  have n2 := R2.cell (i := 2) (v := .int .i64 0) (by rfl)
                  have f0 := RZ2.frozen 0
                  have f1 := R1.frozen 1
                  have f2 := R2.frozen 2
                  have XD := Lib.hid (((X12.out.setCell (p := ⟨w11.heap.size, 0, none⟩) HGE.out (.int .i64 y'.kind)).setCell (p := ⟨w11.heap.size, 1, none⟩) HGE.out (.string y'.name)).setCell (p := ⟨w11.heap.size, 2, none⟩) HGE.out (.int .i64 y'.scope))
                  have HS5 := Lib.hid (And.intro (cell_three (g := w11.heap.size) (u0 := .int .i64 y'.kind) (u1 := .string y'.name) (u2 := .int .i64 y'.scope) hS4.1 HLN.out.1) (And.intro (cell_three (g := w11.heap.size) (u0 := .int .i64 y'.kind) (u1 := .string y'.name) (u2 := .int .i64 y'.scope) hS4.2.1 HLN.out.2) (cell_three (g := w11.heap.size) (u0 := .int .i64 y'.kind) (u1 := .string y'.name) (u2 := .int .i64 y'.scope) hS4.2.2 HLN.out.2)))
                  clear RZ2 R1 R2
                  clear hcase hb12 hSz
                  unfold itV
                  refine hK.out _ _ hS4 (fun _ => ?_)
                  clear hK
                  refine KeptAny.take (i := 5) (v := ?_) (by kernel_rfl) rfl rfl (by kernel_rfl) (by kernel_rfl) (by kernel_rfl) (fun _ _ _ h => h) (by rfl) (fun w' hw' => ?_) (fun _ => rfl) hS4 ?_
                  rotate_left
                  · (obtain ⟨g0, g1, g2⟩ := hw'; go_simp; try with_reducible rfl)
                  refine KeptAny.take (i := 6) (v := ?_) (by kernel_rfl) rfl rfl (by kernel_rfl) (by kernel_rfl) (by kernel_rfl) (fun _ _ _ h => h) (by rfl) (fun w' hw' => ?_) (fun _ => rfl) hS4 ?_
                  rotate_left
                  · (obtain ⟨g0, g1, g2⟩ := hw'; go_simp; try with_reducible rfl)
                  refine KeptAny.take (i := 7) (v := ?_) (by kernel_rfl) rfl rfl (by kernel_rfl) (by kernel_rfl) (by kernel_rfl) (fun _ _ _ h => h) (by rfl) (fun w' hw' => ?_) (fun _ => rfl) hS4 ?_
                  rotate_left
                  · (obtain ⟨g0, g1, g2⟩ := hw'; go_simp; try with_reducible rfl)
                  refine KeptAny.one (i := 9) (by kernel_rfl) rfl (by rfl) (fun K hK => ?_)
                  go_simp
                  refine hK.out _ _ HS5.out (fun _ => ?_)
                  clear hK n0 n1 n2 f0 f1 f2 hS4
                  refine KeptAny.one (i := 10) (by kernel_rfl) rfl (by rfl) (fun K hK => ?_)
                  go_simp
                  refine hK.out _ _ HS5.out (fun _ => ?_)
                  clear hK
                  refine KeptAny.done (by kernel_rfl) ?_ _
                  have d2 := RD.out.cell (i := 2) (v := .int .i64 y'.scope) (by rfl)
                  have rD := (RB.out.below XD.out RB.out.lt).cell (i := 0) (v := .slice (some ⟨bb, off, none⟩) ss.length cv) (by rfl)
                  have pD := (RP.out.below XD.out RP.out.lt).cell (i := 0) (v := .int .i64 (i : Int)) (by rfl)
                  go_wp2_with fail
                  refine (implImportedScopes_any ss HF.out (some ⟨bb, off, none⟩) cv (i : Int) _ (HC.out.below XD.out (Nat.le_refl _)) (HEA.out.at XD.out).nodes).mono ?_
                  intro e w14 hgot
                  obtain ⟨oL, cL, ls, g, rfl, hvL, hiL, -, hbL⟩ := hgot.val
                  have HL : Hid (ls = natInts (impP ss i)) := Lib.hid (by
                    rcases hvL with ⟨h1, _⟩ | ⟨_, h2, _⟩
                    · exact absurd HOW.out.1 h1
                    · rw [h2, Int.toNat_natCast])
                  have X14 := Lib.hid (belowS XD.out hbL)
                  have IL := Lib.hid hiL
                  have HIN := Lib.hid (tgt_in HV.out HSC.out HXC.out HK3.out HZ.out HL.out)
                  have RD2 := Lib.hid (RD.out.below hbL RD.out.lt)
                  have hll : ls.length ≤ 1000 := by
                    have h2 := impP_length HV.out i
                    rw [HL.out, natInts_length]
                    omega
                  clear hgot hvL hiL hbL d2 rD pD
                  go_wp2
                  go_loopw [23, 149] (fun v i wr => ∃ (k : Nat) (t : Bool), i = .int .i64 k ∧ v = .bool t ∧ k ≤ ls.length ∧ Hid (t = true ↔ (z' < 0 ∨ ∃ j : Nat, j < k ∧ ls[j]? = some z')) ∧ Hid (Below w14.heap.size w14 wr)) (fun _ i _ => ls.length - (intOf i).toNat)
                  case atStart => exact ⟨0, _, rfl, rfl, Nat.zero_le _, Lib.hid (by simp), Lib.hid (Below.refl _ _)⟩
                  case round =>
                    obtain ⟨k, t, rfl, rfl, hk, HI, HW⟩ := hrel
                    by_cases hlt : k < ls.length
                    · obtain ⟨z1, hz1⟩ : ∃ z1, ls[k]? = some z1 := ⟨_, List.getElem?_eq_getElem hlt⟩
                      obtain ⟨b5, f5, rfl, hb5, q5⟩ := (IL.out.below HW.out).at (by omega)
                      have e0 := q5 k _ hz1
                      have HZ1 := Lib.hid hz1
                      clear hz1 hb5 q5
                      cases t
                      · have HI2 : Hid ((z1 == z') = true ↔ (z' < 0 ∨ ∃ j : Nat, j < k + 1 ∧ ls[j]? = some z')) := Lib.hid (tgt_step HI.out HZ1.out)
                        go_wp2
                        go_roundw
                        case rel => exact ⟨k + 1, _, by go_num, rfl, by omega, HI2, HW⟩
                        case measure => simp only [intOf]; omega
                      · have HI2 : Hid (true = true ↔ (z' < 0 ∨ ∃ j : Nat, j < k + 1 ∧ ls[j]? = some z')) := Lib.hid ⟨fun _ => (HI.out.1 rfl).imp id fun ⟨j, h1, h2⟩ => ⟨j, by omega, h2⟩, fun _ => rfl⟩
                        go_wp2
                        go_roundw
                        case rel => exact ⟨k + 1, _, by go_num, rfl, by omega, HI2, HW⟩
                        case measure => simp only [intOf]; omega
                    · obtain rfl : k = ls.length := by omega
                      obtain rfl : t = true := HI.out.2 (HIN.out.imp id fun ⟨j, hj⟩ => ⟨j, (List.getElem?_eq_some_iff.1 hj).1, hj⟩)
                      have d2 := (RD2.out.below HW.out RD2.out.lt).cell (i := 2) (v := .int .i64 y'.scope) (by rfl)
                      have hyz : (y'.scope == z') = true := by rw [HT.out]; simp
                      go_wp2
                      go_ret
                      exact ⟨rfl, belowS HA.out (belowS X14.out HW.out)⟩
              · have hne : (((qs.length : Nat) : Int) != 1) = true := by
                  have : (((qs.length : Nat) : Int)) ≠ 1 := by omega
                  simpa using this
                have hzm : z' = -1 := by rw [HZ.out]; exact targetP_not (by rw [HM.out]; exact hone)
                subst hzm
                go_wp2
                go_ret
                exact ⟨rfl, belowS HA.out X11.out⟩
        · have hz1 : z' = -1 := by
            rcases Z.out with ⟨hv, y, hy, hk, _⟩ | ⟨_, h2⟩
            · rcases HCS.out with ⟨_, h3, h4⟩ | ⟨h3, _⟩
              · rw [h3] at hy
                cases hy
                exact absurd ⟨hv, h3, h4, hk⟩ hkind
              · exact absurd ⟨hv, by rw [hy]; rfl⟩ h3
            · exact h2
          subst hz1
          cases ok
          · clear hkind
            go_wp2
            go_ret
            exact ⟨rfl, belowS HA.out X9.out⟩
          · have hkk : (x.kind != 3) = true := by
              rcases HCS.out with ⟨h1, h3, h4⟩ | ⟨_, _, h3⟩
              · have : x.kind ≠ 3 := fun h => hkind ⟨h1, h3, rfl, h⟩
                simpa using this
              · cases h3
            clear hkind
            go_wp2
            go_ret
            exact ⟨rfl, belowS HA.out X9.out⟩
end Go.Proofs.YtoijapbffhkbbaaDoor
