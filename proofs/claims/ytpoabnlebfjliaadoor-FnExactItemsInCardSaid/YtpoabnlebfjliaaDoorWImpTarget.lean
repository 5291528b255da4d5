/-
  The walks of ImportTarget, the given one's and impl's. Conditions: the argument's memory holds the graph; the package-level errors hold errors.
-/
import Derived.Test.YtpoabnlebfjliaaDoorWTable
import Derived.Test.YtpoabnlebfjliaaDoorWTarget
namespace Go.Proofs.YtpoabnlebfjliaaDoor
open Go Go.RowKit Go.Maps
attribute [local go_sem ↓] field_kind field_name field_scope
set_option maxRecDepth 100000 in
set_option maxHeartbeats 4000000 in
theorem specMeant_any (ss : List Sc) (hv : Valid ss) (hf : FitsScopes ss) (oa : Option Addr) (cap : Nat) (s : Nat) (hs : s < ss.length) (nm : ByteArray) (w : World) (hc : HoldsScopes w oa ss) :
    Calls Tryd.prog 85 #[.agg #[.slice oa ss.length cap], .int .i64 (s : Int), .string nm] w (PlsGot (meantP ss s nm) w) := by
  have hb0 := (Below.refl w.heap.size w).alloc (Nat.le_refl _) (.cells #[.slice oa ss.length cap] 31)
  have R := Lib.hid (Row.new w [.slice oa ss.length cap] 31)
  have g2 := R.out.cell (i := 0) (by rfl)
  have HB0 := Lib.hid hb0
  have HC := Lib.hid hc
  have HV := Lib.hid hv
  have HF := Lib.hid hf
  have HS := Lib.hid hs
  clear hv hf hc hb0 hs
  go_enter Tryd.func85, Tryd.ntmps85
  go_wp2
  go_cut [6] (fun s6 wx => ∃ o4 c4, s6 = .slice o4 (meantP ss s nm).length c4 ∧ wx.ownsRow w.heap.size 43 2 (.slice o4 (meantP ss s nm).length c4) (meantP ss s nm).length (placeCells (meantP ss s nm)) ∧ Below w.heap.size w wx)
  case first =>
    go_region_held3 (fun w' => w'.cell? ⟨w.heap.size, 0, none⟩ = some (.slice oa ss.length cap))
      (first | exact g2 | exact cell_drew g2 | exact cell_grow hb3 (cell_drew g2) | exact cell_grow hb4 (cell_grow hb3 (cell_drew g2)))
      (first | (go_at_call 103; refine (specTable_any ss HV.out HF.out oa cap _ (HC.out.below HB0.out.drew (Nat.le_refl _))).mono ?_; rintro e w3 ⟨o3, c3, rfl, ht3, -, hb3⟩) | (go_at_call 110; refine (specMeantBy_any ss HV.out oa cap ss.length (Nat.le_refl _) o3 c3 s (Nat.le_of_lt HS.out) HS.out nm _ (HC.out.below (HB0.out.drew.trans (hb3.mono HB0.out.drew.size)) (Nat.le_refl _)) ht3).mono ?_; rintro e w4 ⟨v4, rfl, hrow4, hb4⟩; obtain ⟨o4, c4, rfl⟩ := ownsRow_slice hrow4))
    all_goals go_wp2
    all_goals go_meet
    all_goals exact ⟨o4, c4, rfl, ownsRow_lower hrow4 (Nat.le_trans HB0.out.drew.size hb3.size), (HB0.out.drew.trans (hb3.mono HB0.out.drew.size)).trans (hb4.mono (Nat.le_trans HB0.out.drew.size hb3.size))⟩
  case rest =>
    obtain ⟨o4, c4, rfl, hrow4, hbc⟩ := hcut
    have HR := Lib.hid hrow4
    have HBC := Lib.hid hbc
    clear hrow4 hbc
    go_wp2
    go_ret
    exact ⟨_, rfl, HR.out, HBC.out⟩
theorem meantP_length {ss : List Sc} (hv : Valid ss) (s : Nat) (nm : ByteArray) : (meantP ss s nm).length ≤ 25 := by
  unfold meantP meantF
  split
  · split
    · simp
    · exact lookF_length hv _ _
  · have := ownP_length hv s nm; omega
/-- What ImportTarget answers. -/
def TgtVal (ss : List Sc) (a b z : Int) : Prop := (Valid ss ∧ ∃ x, itemAtP ss a b = some x ∧ x.kind = 3 ∧ z = targetP ss a.toNat x.name) ∨ (¬ (Valid ss ∧ ∃ x, itemAtP ss a b = some x ∧ x.kind = 3) ∧ z = -1)
theorem TgtVal.same {ss : List Sc} {a b z z' : Int} (h : TgtVal ss a b z) (k : TgtVal ss a b z') : z = z' := by
  rcases h with ⟨hv, x, hx, hk, rfl⟩ | ⟨hn, rfl⟩
  · rcases k with ⟨_, y, hy, _, rfl⟩ | ⟨kn, _⟩
    · rw [hx] at hy; cases hy; rfl
    · exact absurd ⟨hv, x, hx, hk⟩ kn
  · rcases k with ⟨kv, y, hy, kk, _⟩ | ⟨_, rfl⟩
    · exact absurd ⟨kv, y, hy, kk⟩ hn
    · rfl
def TgtGot (ss : List Sc) (a b : Int) (w : World) (e : Ending) (w' : World) : Prop := ∃ z, e = .returned (.int .i64 z) ∧ TgtVal ss a b z ∧ Below w.heap.size w w'
theorem itemAtP_some {ss : List Sc} {a b : Int} {x : It} (h : itemAtP ss a b = some x) : ∃ (i j : Nat) (c : Sc), a = (i : Int) ∧ b = (j : Int) ∧ ss[i]? = some c ∧ c.items[j]? = some x := by
  unfold itemAtP at h
  split at h
  · rename_i h0
    cases hc : ss[a.toNat]? with
    | none => rw [hc] at h; cases h
    | some c =>
      rw [hc] at h
      exact ⟨a.toNat, b.toNat, c, by omega, by omega, hc, h⟩
  · cases h
theorem look_any {w : World} {B T M1 M2 : Nat} {v : Value} {ds : List Nd} {ss : List Sc} (hv : Valid ss) (hT : TreeIs w B T M1 M2 v ds ss) {a b : Int} (w1 : (Lit.int .i64 a).wf = true) (w2 : (Lit.int .i64 b).wf = true) :
    (Instr.lookup 71 (.map (some M1)) (.agg #[.int .i64 a, .int .i64 b]) false).run Tryd.prog w = .ok (.agg #[.int .i64 ((itemAtP ss a b).getD zeroIt).kind, .string ((itemAtP ss a b).getD zeroIt).name, .int .i64 ((itemAtP ss a b).getD zeroIt).scope]) w := by
  obtain ⟨_, hat⟩ := look_item hv.small w1 w2
  obtain ⟨n1, hm⟩ := hT.items
  obtain ⟨v1, ps, hrun, hv1⟩ := hm.lookup (t := 71) (e := 95) placeLaw Tryd.underlying71 (zeroItem _) (itemR_mk zeroIt) (pl_key w1 w2)
  rw [hat] at hv1
  obtain rfl := itemR_eq hv1
  exact hrun
end Go.Proofs.YtpoabnlebfjliaaDoor
