/-
  The walks of ImportTarget, the given one's and impl's. Conditions: the argument's memory holds the graph; the package-level errors hold errors.
-/
import Derived.Test.YtppgdigcopkeiaaDoorWTable
import Derived.Test.YtppgdigcopkeiaaDoorWTarget
namespace Go.Proofs.YtppgdigcopkeiaaDoor
open Go Go.RowKit Go.Maps
attribute [local go_sem ↓] field_kind field_name field_scope
set_option maxRecDepth 100000 in
set_option maxHeartbeats 4000000 in
theorem specMeant_any (ss : List Sc) (hv : Valid ss) (hf : FitsScopes ss) (oa : Option Addr) (cap : Nat) (s : Nat) (hs : s < ss.length) (nm : ByteArray) (w : World) (hc : HoldsScopes w oa ss) :
    Calls Tryd.prog 154 #[.agg #[.slice oa ss.length cap], .int .i64 (s : Int), .string nm] w (PlsGot (meantP ss s nm) w) := by
  have hb0 := (Below.refl w.heap.size w).alloc (Nat.le_refl _) (.cells #[.slice oa ss.length cap] 30)
  have R := Lib.hid (Row.new w [.slice oa ss.length cap] 30)
  have g2 := R.out.cell (i := 0) (by rfl)
  have HB0 := Lib.hid hb0
  have HC := Lib.hid hc
  have HV := Lib.hid hv
  have HF := Lib.hid hf
  have HS := Lib.hid hs
  clear hv hf hc hb0 hs
  go_enter Tryd.func154, Tryd.ntmps154
  go_wp2
  go_cut [6] (fun s6 wx => ∃ o4 c4, s6 = .slice o4 (meantP ss s nm).length c4 ∧ wx.ownsRow w.heap.size 34 2 (.slice o4 (meantP ss s nm).length c4) (meantP ss s nm).length (placeCells (meantP ss s nm)) ∧ Below w.heap.size w wx)
  case first =>
    go_region_held3 (fun w' => w'.cell? ⟨w.heap.size, 0, none⟩ = some (.slice oa ss.length cap))
      (first | exact g2 | exact cell_drew g2 | exact cell_grow hb3 (cell_drew g2) | exact cell_grow hb4 (cell_grow hb3 (cell_drew g2)))
      (first | (go_at_call 173; refine (specTable_any ss HV.out HF.out oa cap _ (HC.out.below HB0.out.drew (Nat.le_refl _))).mono ?_; rintro e w3 ⟨o3, c3, rfl, ht3, -, hb3⟩) | (go_at_call 172; refine (specMeantBy_any ss HV.out oa cap ss.length (Nat.le_refl _) o3 c3 s (Nat.le_of_lt HS.out) HS.out nm _ (HC.out.below (HB0.out.drew.trans (hb3.mono HB0.out.drew.size)) (Nat.le_refl _)) ht3).mono ?_; rintro e w4 ⟨v4, rfl, hrow4, hb4⟩; obtain ⟨o4, c4, rfl⟩ := ownsRow_slice hrow4))
    all_goals go_wp2
    all_goals go_meet
    all_goals exact ⟨o4, c4, rfl, ownsRow_lower hrow4 (Nat.le_trans HB0.out.drew.size hb3.size), (HB0.out.drew.trans (hb3.mono HB0.out.drew.size)).trans (hb4.mono (Nat.le_trans HB0.out.drew.size hb3.size))⟩
  case rest =>
    obtain ⟨o4, c4, rfl, hrow4, hbc⟩ := hcut
    have HR := Lib.hid hrow4
    have HBC := Lib.hid hbc
    clear hrow4 hbc
    go_wp2
    go_ret
    exact ⟨_, rfl, HR.out, HBC.out⟩
theorem meantP_length {ss : List Sc} (hv : Valid ss) (s : Nat) (nm : ByteArray) : (meantP ss s nm).length ≤ 25 := by
  unfold meantP meantF
  split
  · split
    · simp
    · exact lookF_length hv _ _
  · have := ownP_length hv s nm; omega
/-- What ImportTarget answers. -/
def TgtVal (ss : List Sc) (a b z : Int) : Prop := (Valid ss ∧ ∃ x, itemAtP ss a b = some x ∧ x.kind = 3 ∧ z = targetP ss a.toNat x.name) ∨ (¬ (Valid ss ∧ ∃ x, itemAtP ss a b = some x ∧ x.kind = 3) ∧ z = -1)
theorem TgtVal.same {ss : List Sc} {a b z z' : Int} (h : TgtVal ss a b z) (k : TgtVal ss a b z') : z = z' := by
  rcases h with ⟨hv, x, hx, hk, rfl⟩ | ⟨hn, rfl⟩
  · rcases k with ⟨_, y, hy, _, rfl⟩ | ⟨kn, _⟩
    · rw [hx] at hy; cases hy; rfl
    · exact absurd ⟨hv, x, hx, hk⟩ kn
  · rcases k with ⟨kv, y, hy, kk, _⟩ | ⟨_, rfl⟩
    · exact absurd ⟨kv, y, hy, kk⟩ hn
    · rfl
def TgtGot (ss : List Sc) (a b : Int) (w : World) (e : Ending) (w' : World) : Prop := ∃ z, e = .returned (.int .i64 z) ∧ TgtVal ss a b z ∧ Below w.heap.size w w'
theorem itemAtP_some {ss : List Sc} {a b : Int} {x : It} (h : itemAtP ss a b = some x) : ∃ (i j : Nat) (c : Sc), a = (i : Int) ∧ b = (j : Int) ∧ ss[i]? = some c ∧ c.items[j]? = some x := by
  unfold itemAtP at h
  split at h
  · rename_i h0
    cases hc : ss[a.toNat]? with
    | none => rw [hc] at h; cases h
    | some c =>
      rw [hc] at h
      exact ⟨a.toNat, b.toNat, c, by omega, by omega, hc, h⟩
  · cases h
theorem look_any {w : World} {B T M1 M2 : Nat} {v : Value} {ds : List Nd} {ss : List Sc} (hv : Valid ss) (hT : TreeIs w B T M1 M2 v ds ss) {a b : Int} (w1 : (Lit.int .i64 a).wf = true) (w2 : (Lit.int .i64 b).wf = true) :
    (Instr.lookup 141 (.map (some M1)) (.agg #[.int .i64 a, .int .i64 b]) false).run Tryd.prog w = .ok (.agg #[.int .i64 ((itemAtP ss a b).getD zeroIt).kind, .string ((itemAtP ss a b).getD zeroIt).name, .int .i64 ((itemAtP ss a b).getD zeroIt).scope]) w := by
  obtain ⟨_, hat⟩ := look_item hv.small w1 w2
  obtain ⟨n1, hm⟩ := hT.items
  obtain ⟨v1, ps, hrun, hv1⟩ := hm.lookup (t := 141) (e := 60) placeLaw Tryd.underlying141 (zeroItem _) (itemR_mk zeroIt) (pl_key w1 w2)
  rw [hat] at hv1
  obtain rfl := itemR_eq hv1
  exact hrun
set_option maxRecDepth 100000 in
set_option maxHeartbeats 4000000 in
theorem implImportTarget_any (ss : List Sc) (hF : Fair ss) (oa : Option Addr) (cap : Nat) (a b : Int) (ha : (Lit.int .i64 a).wf = true) (hb' : (Lit.int .i64 b).wf = true) (w : World) (hc : HoldsScopes w oa ss) (hE : TreeErrs w) :
    Calls Tryd.prog 67 #[.agg #[.slice oa ss.length cap], .agg #[.int .i64 a, .int .i64 b]] w (TgtGot ss a b w) := by
  have hb0 : Below w.heap.size w ((w.alloc (.cells #[.slice oa ss.length cap] 30)).alloc (.cells #[.int .i64 a, .int .i64 b] 34)) := ((Below.refl _ _).alloc (Nat.le_refl _) _).alloc (by simp) _
  have C := Lib.hid (hF.tree oa cap _ (hc.below hb0 (Nat.le_refl _)) (hE.below hb0 hE.size))
  have RP : Hid (Row ((w.alloc (.cells #[.slice oa ss.length cap] 30)).alloc (.cells #[.int .i64 a, .int .i64 b] 34)) (w.heap.size + 1) 34 [.int .i64 a, .int .i64 b]) := Lib.hid (by
    have := Row.new (w.alloc (.cells #[.slice oa ss.length cap] 30)) [.int .i64 a, .int .i64 b] 34
    rw [World.size_alloc] at this
    exact this)
  have HB0 := Lib.hid hb0
  have HWF := Lib.hid (And.intro ha hb')
  clear hF hc hE hb0 ha hb'
  go_enter Tryd.func67, Tryd.ntmps67
  go_wp2_with fail
  refine C.out.mono ?_
  rintro e w1 (⟨hv, ⟨tp, p, rfl⟩, hb⟩ | ⟨hv, T, M1, M2, v, ds, rfl, hb, hT⟩)
  · have HB := Lib.hid (HB0.out.trans (hb.mono HB0.out.size))
    have HR : Hid (TgtVal ss a b (-1)) := Lib.hid (.inr ⟨fun h => hv h.1, rfl⟩)
    clear hv hb
    go_wp2
    go_region
    all_goals go_wp2
    all_goals go_ret
    all_goals exact ⟨_, rfl, HR.out, HB.out.drew⟩
  · have HB := Lib.hid (HB0.out.trans (hb.mono HB0.out.size))
    have RP1 := Lib.hid (RP.out.below hb RP.out.lt)
    have hTd := hT.below ((Below.refl w1.heap.size w1).drew)
    have hrun := look_any hv hTd HWF.out.1 HWF.out.2
    have t1 := hTd.tree.box.cell (i := 1) (by rfl)
    have p0 := cell_drew (RP1.out.cell (i := 0) (by rfl))
    have p1 := cell_drew (RP1.out.cell (i := 1) (by rfl))
    have HV := Lib.hid hv
    have HTd := Lib.hid hTd
    clear hb hT hTd hv
    obtain ⟨x, hxe⟩ : ∃ x, (itemAtP ss a b).getD zeroIt = x := ⟨_, rfl⟩
    rw [hxe] at hrun
    have HXE := Lib.hid hxe
    clear hxe
    by_cases hk : x.kind = 3
    · have hq : (x.kind == 3) = true := by simpa using hk
      have HX : Hid (itemAtP ss a b = some x) := Lib.hid (by
        cases h : itemAtP ss a b with
        | none =>
          have := HXE.out
          rw [h] at this
          subst this
          exact absurd hk (by decide)
        | some y =>
          have := HXE.out
          rw [h] at this
          subst this
          rfl)
      obtain ⟨i, j, c, rfl, rfl, hsc, hjx⟩ := itemAtP_some HX.out
      have HQ : Hid (IsItem ss (i, j)) := Lib.hid ⟨c, x, hsc, hjx⟩
      have HR : Hid (TgtVal ss (i : Int) (j : Int) (tgt ss (i, j))) := Lib.hid (.inl ⟨HV.out, x, HX.out, hk, by rw [tgt_of hsc hjx, Int.toNat_natCast]⟩)
      clear hk hsc hjx
      go_wp2
      go_region
      clear hrun t1
      have HTE := Lib.hid (HTd.out.below ((Below.refl _ _).drew))
      have HBE := Lib.hid (HB.out.drew.drew)
      have HNE : Hid (M1 ≠ w1.drew.drew.heap.size ∧ M2 ≠ w1.drew.drew.heap.size) := Lib.hid (by
        obtain ⟨_, h1⟩ := HTE.out.items
        obtain ⟨_, h2⟩ := HTE.out.mods
        have := h1.lt
        have := h2.lt
        omega)
      have hbl : w.heap.size + 1 < w1.drew.drew.heap.size := RP1.out.lt
      go_wp2
      go_cut [4] (fun s4 wx => s4 = .int .i64 (tgt ss (i, j)) ∧ Below w.heap.size w wx)
      case first =>
        go_region_held3 (fun w' => w'.cell? ⟨w.heap.size + 1, 0, none⟩ = some (.int .i64 (i : Int)) ∧ w'.cell? ⟨w.heap.size + 1, 1, none⟩ = some (.int .i64 (j : Int)))
          (first | exact ⟨p0, p1⟩ | exact ⟨cell_drew p0, cell_drew p1⟩ | exact ⟨cell_grow hb3 (cell_drew p0), cell_grow hb3 (cell_drew p1)⟩ | exact ⟨hc4.cell (Nat.lt_of_lt_of_le hbl hb3.size) (cell_grow hb3 (cell_drew p0)), hc4.cell (Nat.lt_of_lt_of_le hbl hb3.size) (cell_grow hb3 (cell_drew p1))⟩)
          (first | (go_at_call 105; refine (lookupIn_any T _).mono ?_; rintro e w3 ⟨rfl, hR3, hM3, hb3⟩) | (go_at_call 121; refine (target_any HV.out i j HQ.out _ (LookW.mk (HTE.out.below hb3) hR3 (memo_nil hM3) HNE.out.1 HNE.out.2)).mono ?_; rintro e w4 ⟨rfl, hl4⟩; have hc4 := hl4.turns.cellsM (memo_nil (ss := ss) hM3)))
        all_goals go_wp2
        all_goals go_meet
        all_goals exact ⟨rfl, (HBE.out.trans (hb3.mono HBE.out.size)).trans (hl4.turns.below HBE.out.size HBE.out.size (Nat.le_trans HBE.out.size hb3.size))⟩
      case rest =>
        obtain ⟨rfl, hbc⟩ := hcut
        have HBC := Lib.hid hbc
        clear hbc p0 p1
        go_wp2
        go_ret
        exact ⟨_, rfl, HR.out, HBC.out⟩
    · have hq : (x.kind == 3) = false := by simpa using hk
      have HR : Hid (TgtVal ss a b (-1)) := Lib.hid (.inr ⟨fun h => by
        obtain ⟨_, y, hy, hky⟩ := h
        have := HXE.out
        rw [hy] at this
        subst this
        exact hk hky, rfl⟩)
      clear hk
      go_wp2
      go_region
      all_goals go_wp2
      all_goals go_ret
      all_goals exact ⟨_, rfl, HR.out, HB.out.drew⟩
end Go.Proofs.YtppgdigcopkeiaaDoor
