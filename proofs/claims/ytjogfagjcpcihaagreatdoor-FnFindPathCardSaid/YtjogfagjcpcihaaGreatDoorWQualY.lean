/-
  The walks of Qualified, the given one's and impl's. Conditions: the argument's memory holds the graph; the package-level errors hold errors.
-/
import Derived.Test.YtjogfagjcpcihaaGreatDoorWImplPathY
import Derived.Test.YtjogfagjcpcihaaGreatDoorJBY
namespace Go.Proofs.YtjogfagjcpcihaaGreatDoor
open Go Go.RowKit Go.Maps
/-- What Qualified answers. -/
def isDecl (ss : List Sc) (a b : Int) : Prop := Valid ss ∧ ∃ x, itemAtP ss a b = some x ∧ x.kind = 1
def QualR (ss : List Sc) (a b : Int) (str : ByteArray) (ok : Bool) : Prop :=
  (Valid ss ∧ (∃ x, itemAtP ss a b = some x ∧ x.kind = 1 ∧ str = pathF ss (chainP ss a.toNat) ++ x.name) ∧ ok = true) ∨ (¬ isDecl ss a b ∧ str = ⟨#[]⟩ ∧ ok = false)
theorem QualR.same {ss : List Sc} {a b : Int} {s t : ByteArray} {ok ok' : Bool} (h : QualR ss a b s ok) (k : QualR ss a b t ok') : s = t ∧ ok = ok' := by
  rcases h with ⟨h1, ⟨x, h2, h3, rfl⟩, rfl⟩ | ⟨h1, rfl, rfl⟩ <;> rcases k with ⟨k1, ⟨y, k2, k3, rfl⟩, rfl⟩ | ⟨k1, rfl, rfl⟩
  · rw [h2] at k2; cases k2; exact ⟨rfl, rfl⟩
  · exact absurd ⟨h1, x, h2, h3⟩ k1
  · exact absurd ⟨k1, y, k2, k3⟩ h1
  · exact ⟨rfl, rfl⟩
def QualGot (ss : List Sc) (a b : Int) (w : World) (e : Ending) (w' : World) : Prop := ∃ str ok, e = .returned (.tuple #[.string str, .bool ok]) ∧ QualR ss a b str ok ∧ Below w.heap.size w w'
theorem item_scope {ss : List Sc} (hv : Valid ss) {a b : Int} {x : It} (h : itemAtP ss a b = some x) : HasScope ss a ∧ x.name.size = 1 ∧ (pathF ss (chainP ss a.toNat)).size ≤ 6 := by
  unfold itemAtP at h
  split at h
  · rename_i h0
    cases hc : ss[a.toNat]? with
    | none => rw [hc] at h; cases h
    | some c =>
      rw [hc] at h
      have hl := (List.getElem?_eq_some_iff.1 hc).1
      have hq : (a.toNat, b.toNat, x) ∈ placed 0 ss := mem_placed.2 ⟨c, Nat.zero_le _, by simpa using hc, h⟩
      refine ⟨⟨hv, by omega, by omega⟩, pathName_size hv hq, ?_⟩
      have h1 := pathF_size hv (chainP ss a.toNat)
      have h2 := chain_bound hv.climbs (s := a.toNat) hl
      have h3 := hv.count.2
      omega
  · cases h
set_option maxRecDepth 100000 in
set_option maxHeartbeats 4000000 in
theorem implQualified_any (ss : List Sc) (hF : Fair ss) (oa : Option Addr) (cap : Nat) (a b : Int) (ha : (Lit.int .i64 a).wf = true) (hb' : (Lit.int .i64 b).wf = true) (w : World) (hc : HoldsScopes w oa ss) (hE : NodeErrs w) :
    Calls Tryz.prog 20 #[.agg #[.slice oa ss.length cap], .agg #[.int .i64 a, .int .i64 b]] w (QualGot ss a b w) := by
  have hb0 : Below w.heap.size w ((w.alloc (.cells #[.slice oa ss.length cap] 33)).alloc (.cells #[.int .i64 a, .int .i64 b] 26)) := ((Below.refl _ _).alloc (Nat.le_refl _) _).alloc (by simp) _
  have RG := Lib.hid ((Row.new w [.slice oa ss.length cap] 33).alloc (.cells #[.int .i64 a, .int .i64 b] 26))
  have RP : Hid (Row ((w.alloc (.cells #[.slice oa ss.length cap] 33)).alloc (.cells #[.int .i64 a, .int .i64 b] 26)) (w.heap.size + 1) 26 [.int .i64 a, .int .i64 b]) := Lib.hid (by
    have := Row.new (w.alloc (.cells #[.slice oa ss.length cap] 33)) [.int .i64 a, .int .i64 b] 26
    rw [World.size_alloc] at this
    exact this)
  have C := Lib.hid (implItemAt_any ss hF oa cap a b ha hb' _ (hc.below hb0 (Nat.le_refl _)) (hE.trees.below hb0 hE.trees.size))
  have HB0 := Lib.hid hb0
  have HC := Lib.hid hc
  have HE := Lib.hid hE
  have HF := Lib.hid hF
  have g0 := RG.out.cell (i := 0) (by rfl)
  have p0 := RP.out.cell (i := 0) (by rfl)
  have p1 := RP.out.cell (i := 1) (by rfl)
  clear hF hc hE hb0 ha hb'
  go_enter Tryz.func20, Tryz.ntmps20
  go_wp2_with fail
  refine C.out.mono ?_
  rintro e w1 ⟨x, ok, rfl, hcase, hb1⟩
  have hbx := hb1.trans ((Below.refl w1.heap.size w1).alloc (Nat.le_refl _) (.cells #[.int .i64 x.kind, .string x.name, .int .i64 x.scope] 37) |>.mono hb1.size)
  have HB1 := Lib.hid (HB0.out.trans (hbx.mono HB0.out.size))
  have RX := Lib.hid (Row.new w1 [.int .i64 x.kind, .string x.name, .int .i64 x.scope] 37)
  have g1 := (RG.out.below hbx RG.out.lt).cell (i := 0) (v := .slice oa ss.length cap) (by rfl)
  have q0 := (RP.out.below hbx RP.out.lt).cell (i := 0) (v := .int .i64 a) (by rfl)
  clear hb1 hbx g0 p0 p1
  unfold itV
  rcases hcase with ⟨hv, hx, rfl⟩ | ⟨hn, rfl, rfl⟩
  · have HX := Lib.hid (And.intro hv hx)
    have x0 := RX.out.cell (i := 0) (by rfl)
    clear hv hx
    by_cases hk : x.kind = 1
    · have hq1 : (x.kind != 1) = false := by simpa using hk
      have HI := Lib.hid (item_scope HX.out.1 HX.out.2)
      have HK := Lib.hid hk
      have C2 := Lib.hid (implPath_any ss HF.out oa cap a _ (HC.out.below HB1.out (Nat.le_refl _)) (HE.out.at HB1.out))
      clear hk
      go_wp2_with fail
      refine C2.out.mono ?_
      rintro e w3 ⟨str, ok, rfl, hR, hb3⟩
      have RX3 := Lib.hid (RX.out.below hb3 RX.out.lt)
      have x1 := RX3.out.cell (i := 1) (by rfl)
      have HB3 := Lib.hid (HB1.out.trans (hb3.mono HB1.out.size))
      obtain ⟨rfl, rfl⟩ := hR.same (.inr ⟨HI.out.1, rfl, rfl⟩)
      have HQ : Hid (QualR ss a b (pathF ss (chainP ss a.toNat) ++ x.name) true) := Lib.hid (.inl ⟨HX.out.1, ⟨x, HX.out.2, HK.out, rfl⟩, rfl⟩)
      have hsz : ¬ 9223372036854775807 < (pathF ss (chainP ss a.toNat)).size + x.name.size := by have := HI.out.2.1; have := HI.out.2.2; omega
      clear hb3 hR
      go_wp2
      go_ret2
      exact ⟨_, _, rfl, HQ.out, HB3.out⟩
    · have hq1 : (x.kind != 1) = true := by simpa using hk
      have HQ : Hid (QualR ss a b ⟨#[]⟩ false) := Lib.hid (.inr ⟨fun h => by obtain ⟨_, y, hy, hky⟩ := h; rw [HX.out.2] at hy; cases hy; exact hk hky, rfl, rfl⟩)
      clear hk
      go_wp2
      go_ret2
      exact ⟨_, _, rfl, HQ.out, HB1.out⟩
  · have HQ : Hid (QualR ss a b ⟨#[]⟩ false) := Lib.hid (.inr ⟨fun h => by obtain ⟨hv, y, hy, _⟩ := h; exact hn ⟨hv, by rw [hy]; rfl⟩, rfl, rfl⟩)
    clear hn
    go_wp2
    go_ret2
    exact ⟨_, _, rfl, HQ.out, HB1.out⟩
set_option maxRecDepth 100000 in
set_option maxHeartbeats 4000000 in
theorem specQualified_any (ss : List Sc) (hf : FitsScopes ss) (oa : Option Addr) (cap : Nat) (a b : Int) (w : World) (hc : HoldsScopes w oa ss) :
    Calls Tryz.prog 21 #[.agg #[.slice oa ss.length cap], .agg #[.int .i64 a, .int .i64 b]] w (QualGot ss a b w) := by
  have hb0 : Below w.heap.size w ((w.alloc (.cells #[.slice oa ss.length cap] 33)).alloc (.cells #[.int .i64 a, .int .i64 b] 26)) := ((Below.refl _ _).alloc (Nat.le_refl _) _).alloc (by simp) _
  have RG := Lib.hid ((Row.new w [.slice oa ss.length cap] 33).alloc (.cells #[.int .i64 a, .int .i64 b] 26))
  have RP : Hid (Row ((w.alloc (.cells #[.slice oa ss.length cap] 33)).alloc (.cells #[.int .i64 a, .int .i64 b] 26)) (w.heap.size + 1) 26 [.int .i64 a, .int .i64 b]) := Lib.hid (by
    have := Row.new (w.alloc (.cells #[.slice oa ss.length cap] 33)) [.int .i64 a, .int .i64 b] 26
    rw [World.size_alloc] at this
    exact this)
  have C := Lib.hid (specItemAt_any ss hf oa cap a b _ (hc.below hb0 (Nat.le_refl _)))
  have HB0 := Lib.hid hb0
  have HC := Lib.hid hc
  have HF := Lib.hid hf
  have g0 := RG.out.cell (i := 0) (by rfl)
  have p0 := RP.out.cell (i := 0) (by rfl)
  have p1 := RP.out.cell (i := 1) (by rfl)
  clear hf hc hb0
  go_enter Tryz.func21, Tryz.ntmps21
  go_wp2_with fail
  refine C.out.mono ?_
  rintro e w1 ⟨x, ok, rfl, hcase, hb1⟩
  have hbx := hb1.trans ((Below.refl w1.heap.size w1).alloc (Nat.le_refl _) (.cells #[.int .i64 x.kind, .string x.name, .int .i64 x.scope] 37) |>.mono hb1.size)
  have HB1 := Lib.hid (HB0.out.trans (hbx.mono HB0.out.size))
  have RX := Lib.hid (Row.new w1 [.int .i64 x.kind, .string x.name, .int .i64 x.scope] 37)
  have g1 := (RG.out.below hbx RG.out.lt).cell (i := 0) (v := .slice oa ss.length cap) (by rfl)
  have q0 := (RP.out.below hbx RP.out.lt).cell (i := 0) (v := .int .i64 a) (by rfl)
  clear hb1 hbx g0 p0 p1
  unfold itV
  rcases hcase with ⟨hv, hx, rfl⟩ | ⟨hn, rfl, rfl⟩
  · have HX := Lib.hid (And.intro hv hx)
    have x0 := RX.out.cell (i := 0) (by rfl)
    clear hv hx
    by_cases hk : x.kind = 1
    · have hq1 : (x.kind != 1) = false := by simpa using hk
      have HI := Lib.hid (item_scope HX.out.1 HX.out.2)
      have HK := Lib.hid hk
      have C2 := Lib.hid (specPath_any ss HF.out oa cap a _ (HC.out.below HB1.out (Nat.le_refl _)))
      clear hk
      go_wp2_with fail
      refine C2.out.mono ?_
      rintro e w3 ⟨str, ok, rfl, hR, hb3⟩
      have RX3 := Lib.hid (RX.out.below hb3 RX.out.lt)
      have x1 := RX3.out.cell (i := 1) (by rfl)
      have HB3 := Lib.hid (HB1.out.trans (hb3.mono HB1.out.size))
      obtain ⟨rfl, rfl⟩ := hR.same (.inr ⟨HI.out.1, rfl, rfl⟩)
      have HQ : Hid (QualR ss a b (pathF ss (chainP ss a.toNat) ++ x.name) true) := Lib.hid (.inl ⟨HX.out.1, ⟨x, HX.out.2, HK.out, rfl⟩, rfl⟩)
      have hsz : ¬ 9223372036854775807 < (pathF ss (chainP ss a.toNat)).size + x.name.size := by have := HI.out.2.1; have := HI.out.2.2; omega
      clear hb3 hR
      go_wp2
      go_ret2
      exact ⟨_, _, rfl, HQ.out, HB3.out⟩
    · have hq1 : (x.kind != 1) = true := by simpa using hk
      have HQ : Hid (QualR ss a b ⟨#[]⟩ false) := Lib.hid (.inr ⟨fun h => by obtain ⟨_, y, hy, hky⟩ := h; rw [HX.out.2] at hy; cases hy; exact hk hky, rfl, rfl⟩)
      clear hk
      go_wp2
      go_ret2
      exact ⟨_, _, rfl, HQ.out, HB1.out⟩
  · have HQ : Hid (QualR ss a b ⟨#[]⟩ false) := Lib.hid (.inr ⟨fun h => by obtain ⟨hv, y, hy, _⟩ := h; exact hn ⟨hv, by rw [hy]; rfl⟩, rfl, rfl⟩)
    clear hn
    go_wp2
    go_ret2
    exact ⟨_, _, rfl, HQ.out, HB1.out⟩
end Go.Proofs.YtjogfagjcpcihaaGreatDoor
