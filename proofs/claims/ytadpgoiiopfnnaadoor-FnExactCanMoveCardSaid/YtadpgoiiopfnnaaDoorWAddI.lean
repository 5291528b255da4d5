/-
  The walks of impl's AddDeclaration and AddImport. Conditions: the argument's memory holds the graph; the package-level errors hold errors.
-/
import Derived.Test.YtadpgoiiopfnnaaDoorWAdd
import Derived.Test.YtadpgoiiopfnnaaDoorWMarkR
namespace Go.Proofs.YtadpgoiiopfnnaaDoor
open Go Go.RowKit
def addOk (ss : List Sc) (n : Int) (nm : ByteArray) : Prop := Room ss n ∧ nameB nm = true
/-- The graph with an item more of a kind and a name; where it stands. -/
def addAt (ss : List Sc) (n kind : Int) (nm : ByteArray) : List Sc := addP ss n.toNat ⟨kind, nm, -1⟩
def endAt (ss : List Sc) (n : Int) : Int := match ss[n.toNat]? with
  | some c => c.items.length
  | none => 0
theorem endAt_nat {ss : List Sc} {i : Nat} {c : Sc} (h : ss[i]? = some c) : endAt ss (i : Int) = (c.items.length : Int) := by
  unfold endAt
  rw [Int.toNat_natCast, h]
/-- A graph, a place and a truth, as a call hands them back. -/
def GrPlGot (ok : Prop) (l : List Sc) (a b : Int) (w : World) (e : Ending) (w' : World) : Prop :=
  (¬ ok ∧ ∃ v hs, e = .returned (.tuple #[.agg #[v], .agg #[.int .i64 0, .int .i64 0], .bool false]) ∧ OwnGr w' w.heap.size v [] hs ∧ Below w.heap.size w w') ∨
  (ok ∧ ∃ v hs, e = .returned (.tuple #[.agg #[v], .agg #[.int .i64 a, .int .i64 b], .bool true]) ∧ OwnGr w' w.heap.size v l hs ∧ Below w.heap.size w w')
theorem OwnGr.past {w : World} {B g : Nat} {v x : Value} {ss : List Sc} {hs vs : List Value} (h : OwnGr w B v ss hs) (hr : Row w g 30 vs) : OwnGr (w.setCell ⟨g, 0, none⟩ x) B v ss hs :=
  ⟨h.len, ownsRow_otherN h.row hr (by decide) 0 _, fun k t z h1 h2 => ownsRow_otherN (h.items k t z h1 h2) hr (by decide) 0 _, h.apart⟩
theorem OwnGr.pastP {w : World} {B g i : Nat} {v x : Value} {ss : List Sc} {hs vs : List Value} (h : OwnGr w B v ss hs) (hr : Row w g 34 vs) : OwnGr (w.setCell ⟨g, i, none⟩ x) B v ss hs :=
  ⟨h.len, ownsRow_otherN h.row hr (by decide) i _, fun k t z h1 h2 => ownsRow_otherN (h.items k t z h1 h2) hr (by decide) i _, h.apart⟩
theorem OwnGr.drew {w : World} {B : Nat} {v : Value} {ss : List Sc} {hs : List Value} (h : OwnGr w B v ss hs) : OwnGr w.drew B v ss hs := h.below ((Below.refl _ _).drew)
set_option maxRecDepth 100000 in
set_option maxHeartbeats 4000000 in
theorem implAddDeclaration_any (ss : List Sc) (hF : Fair ss) (oa : Option Addr) (cap : Nat) (n : Int) (nm : ByteArray) (w : World) (hc : HoldsScopes w oa ss) (hE : AddErrs w) :
    Calls Tryd.prog 24 #[.agg #[.slice oa ss.length cap], .int .i64 n, .string nm] w (GrPlGot (addOk ss n nm) (addAt ss n 1 nm) n (endAt ss n) w) := by
  have hb0 : Below w.heap.size w (((w.alloc (.cells #[.slice oa ss.length cap] 30)).alloc (.cells #[.slice none 0 0] 30)).alloc (.cells #[.int .i64 0, .int .i64 0] 34)) := (((Below.refl _ _).alloc (Nat.le_refl _) _).alloc (by simp) _).alloc (by simp; omega) _
  have R1 := ((Row.new w [.slice oa ss.length cap] 30).alloc (.cells #[.slice none 0 0] 30)).alloc (.cells #[.int .i64 0, .int .i64 0] 34)
  have R2 := (Row.new (w.alloc (.cells #[.slice oa ss.length cap] 30)) [.slice none 0 0] 30).alloc (.cells #[.int .i64 0, .int .i64 0] 34)
  have R3 := Row.new ((w.alloc (.cells #[.slice oa ss.length cap] 30)).alloc (.cells #[.slice none 0 0] 30)) [.int .i64 0, .int .i64 0] 34
  rw [World.size_alloc] at R2
  rw [World.size_alloc, World.size_alloc] at R3
  have C := Lib.hid (adding_any ss hF oa cap n 1 nm _ (hc.below hb0 (Nat.le_refl _)) (hE.at hb0))
  have HB := Lib.hid hb0
  have HBX := Lib.hid (⟨R2, R3⟩ : Boxes2 _ _ _)
  have g1 := R1.cell (i := 0) (by rfl)
  clear hF hc hE hb0 R1 R2 R3
  go_enter Tryd.func24, Tryd.ntmps24
  go_wp2_with fail
  refine C.out.mono ?_
  rintro e w1 (⟨hn, ⟨tp, p, rfl⟩, hb⟩ | ⟨i, c, v, hs, rfl, hv, hci, hl5, hnm, rfl, hO, hb⟩)
  · have HN : Hid (¬ addOk ss n nm) := Lib.hid hn
    have HO := Lib.hid (OwnGr.nil w w.heap.size)
    clear hn
    have hbx := hb.trans ((((Below.refl w1.heap.size w1).alloc (Nat.le_refl _) (.cells #[.slice none 0 0] 30)).alloc (by simp) (.cells #[.int .i64 0, .int .i64 0] 34)).mono hb.size)
    have HB1 := Lib.hid (HB.out.trans (hbx.mono HB.out.size))
    have RA := (Row.new w1 [.slice none 0 0] 30).alloc (.cells #[.int .i64 0, .int .i64 0] 34)
    have RP := Row.new (w1.alloc (.cells #[.slice none 0 0] 30)) [.int .i64 0, .int .i64 0] 34
    rw [World.size_alloc] at RP
    have a0 := RA.cell (i := 0) (v := .slice none 0 0) (by rfl)
    have b0 := RP.cell (i := 0) (v := .int .i64 0) (by rfl)
    have b1 := RP.cell (i := 1) (v := .int .i64 0) (by rfl)
    have hsep : w1.heap.size + 1 ≠ w.heap.size + 1 := by have h1 := HBX.out.pl.lt; have h2 := hb.size; omega
    have b0' := (cell_far hsep 0 (.slice none 0 0) (o := 0)).trans b0
    have b1' := (cell_far hsep 0 (.slice none 0 0) (o := 1)).trans b1
    have HX1 := Lib.hid (HBX.out.below hbx)
    have n0 := HX1.out.gr.cell (i := 0) (v := .slice none 0 0) (by rfl)
    have f0 := HX1.out.gr.frozen 0
    have p0 := HX1.out.pl.cell (i := 0) (v := .int .i64 0) (by rfl)
    have p1 := HX1.out.pl.cell (i := 1) (v := .int .i64 0) (by rfl)
    have q0 := HX1.out.pl.frozen 0
    have q1 := HX1.out.pl.frozen 1
    clear hb hbx RA RP g1 hsep
    go_wp2
    go_region
    all_goals go_wp2
    all_goals (
      refine bodyPost_ret (v := .tuple #[.agg #[.slice none 0 0], .agg #[.int .i64 0, .int .i64 0], .bool false]) ?_ rfl (.inl ⟨HN.out, _, [], rfl, ?_, ?_⟩)
      · obtain ⟨-, -, d2, d3, d4⟩ := HX1.out.sets (by omega) (.slice none 0 0) (.int .i64 0) (.int .i64 0)
        first | (simp [results, Tryd.results24, go_sem, d2, d3, d4]; done) | (simp [results, Tryd.results24, go_sem]; done)
      · repeat (first | exact OwnGr.nil _ _ | refine OwnGr.drew ?_ | exact ((HO.out.past HX1.out.gr).pastP (HX1.out.pl.other (a := ⟨w.heap.size + 1, 0, none⟩) (by show w.heap.size + 1 ≠ w.heap.size + 1 + 1; omega) _)).pastP ((HX1.out.pl.other (a := ⟨w.heap.size + 1, 0, none⟩) (by show w.heap.size + 1 ≠ w.heap.size + 1 + 1; omega) _).set 0 _))
      · repeat (first | exact HB1.out | apply Below.drew | refine Below.setCell ?_ (by simp <;> omega) _))
  · obtain ⟨l, hl⟩ : ∃ l, addP ss i ⟨1, nm, -1⟩ = l := ⟨_, rfl⟩
    rw [hl] at hO
    obtain ⟨ov, cv, rfl, -⟩ := hO.holds
    obtain ⟨z, hz⟩ : ∃ z : Int, (c.items.length : Int) = z := ⟨_, rfl⟩
    have HK : Hid (addOk ss (i : Int) nm ∧ addAt ss (i : Int) 1 nm = l ∧ endAt ss (i : Int) = z) := Lib.hid ⟨⟨⟨hv, i, c, rfl, hci, hl5⟩, hnm⟩, by unfold addAt; rw [Int.toNat_natCast, hl], by rw [endAt_nat hci, hz]⟩
    rw [hz]
    have hbN := ((Below.refl w1.heap.size w1).alloc (Nat.le_refl _) (.cells #[.slice ov l.length cv] 30)).alloc (by simp) (.cells #[.int .i64 (i : Int), .int .i64 z] 34)
    have HO := Lib.hid ((hO.below hbN).lower HB.out.size)
    clear hv hci hl5 hnm hz hO hbN hl
    have hbx := hb.trans ((((Below.refl w1.heap.size w1).alloc (Nat.le_refl _) (.cells #[.slice ov l.length cv] 30)).alloc (by simp) (.cells #[.int .i64 (i : Int), .int .i64 z] 34)).mono hb.size)
    have HB1 := Lib.hid (HB.out.trans (hbx.mono HB.out.size))
    have RA := (Row.new w1 [.slice ov l.length cv] 30).alloc (.cells #[.int .i64 (i : Int), .int .i64 z] 34)
    have RP := Row.new (w1.alloc (.cells #[.slice ov l.length cv] 30)) [.int .i64 (i : Int), .int .i64 z] 34
    rw [World.size_alloc] at RP
    have a0 := RA.cell (i := 0) (v := .slice ov l.length cv) (by rfl)
    have b0 := RP.cell (i := 0) (v := .int .i64 (i : Int)) (by rfl)
    have b1 := RP.cell (i := 1) (v := .int .i64 z) (by rfl)
    have hsep : w1.heap.size + 1 ≠ w.heap.size + 1 := by have h1 := HBX.out.pl.lt; have h2 := hb.size; omega
    have b0' := (cell_far hsep 0 (.slice ov l.length cv) (o := 0)).trans b0
    have b1' := (cell_far hsep 0 (.slice ov l.length cv) (o := 1)).trans b1
    have HX1 := Lib.hid (HBX.out.below hbx)
    have n0 := HX1.out.gr.cell (i := 0) (v := .slice none 0 0) (by rfl)
    have f0 := HX1.out.gr.frozen 0
    have p0 := HX1.out.pl.cell (i := 0) (v := .int .i64 0) (by rfl)
    have p1 := HX1.out.pl.cell (i := 1) (v := .int .i64 0) (by rfl)
    have q0 := HX1.out.pl.frozen 0
    have q1 := HX1.out.pl.frozen 1
    clear hb hbx RA RP g1 hsep
    go_wp2
    go_region
    all_goals go_wp2
    all_goals (
      refine bodyPost_ret (v := .tuple #[.agg #[.slice ov l.length cv], .agg #[.int .i64 (i : Int), .int .i64 z], .bool true]) ?_ rfl (.inr ⟨HK.out.1, _, hs, by rw [HK.out.2.2], ?_, ?_⟩)
      · obtain ⟨-, -, d2, d3, d4⟩ := HX1.out.sets (by omega) (.slice ov l.length cv) (.int .i64 (i : Int)) (.int .i64 z)
        first | (simp [results, Tryd.results24, go_sem, d2, d3, d4]; done) | (simp [results, Tryd.results24, go_sem]; done)
      · rw [HK.out.2.1]; repeat (first | exact HO.out | refine OwnGr.drew ?_ | exact ((HO.out.past HX1.out.gr).pastP (HX1.out.pl.other (a := ⟨w.heap.size + 1, 0, none⟩) (by show w.heap.size + 1 ≠ w.heap.size + 1 + 1; omega) _)).pastP ((HX1.out.pl.other (a := ⟨w.heap.size + 1, 0, none⟩) (by show w.heap.size + 1 ≠ w.heap.size + 1 + 1; omega) _).set 0 _))
      · repeat (first | exact HB1.out | apply Below.drew | refine Below.setCell ?_ (by simp <;> omega) _))
set_option maxRecDepth 100000 in
set_option maxHeartbeats 4000000 in
theorem implAddImport_any (ss : List Sc) (hF : Fair ss) (oa : Option Addr) (cap : Nat) (n : Int) (nm : ByteArray) (w : World) (hc : HoldsScopes w oa ss) (hE : AddErrs w) :
    Calls Tryd.prog 27 #[.agg #[.slice oa ss.length cap], .int .i64 n, .string nm] w (GrGot (addOk ss n nm) (addAt ss n 3 nm) w) := by
  have hb0 : Below w.heap.size w ((w.alloc (.cells #[.slice oa ss.length cap] 30)).alloc (.cells #[.slice none 0 0] 30)) := ((Below.refl _ _).alloc (Nat.le_refl _) _).alloc (by simp) _
  have R1 := (Row.new w [.slice oa ss.length cap] 30).alloc (.cells #[.slice none 0 0] 30)
  have R2 := Row.new (w.alloc (.cells #[.slice oa ss.length cap] 30)) [.slice none 0 0] 30
  rw [World.size_alloc] at R2
  have C := Lib.hid (adding_any ss hF oa cap n 3 nm _ (hc.below hb0 (Nat.le_refl _)) (hE.at hb0))
  have HB := Lib.hid hb0
  have HBX := Lib.hid R2
  have g1 := R1.cell (i := 0) (by rfl)
  clear hF hc hE hb0 R1 R2
  go_enter Tryd.func27, Tryd.ntmps27
  go_wp2_with fail
  refine C.out.mono ?_
  rintro e w1 (⟨hn, ⟨tp, p, rfl⟩, hb⟩ | ⟨i, c, v, hs, rfl, hv, hci, hl5, hnm, rfl, hO, hb⟩)
  · have HN : Hid (¬ addOk ss n nm) := Lib.hid hn
    have HO := Lib.hid (OwnGr.nil w w.heap.size)
    clear hn
    have hbx := hb.trans ((((Below.refl w1.heap.size w1).alloc (Nat.le_refl _) (.cells #[.slice none 0 0] 30)).alloc (by simp) (.cells #[.int .i64 0, .int .i64 0] 34)).mono hb.size)
    have HB1 := Lib.hid (HB.out.trans (hbx.mono HB.out.size))
    have RA := (Row.new w1 [.slice none 0 0] 30).alloc (.cells #[.int .i64 0, .int .i64 0] 34)
    have RP := Row.new (w1.alloc (.cells #[.slice none 0 0] 30)) [.int .i64 0, .int .i64 0] 34
    rw [World.size_alloc] at RP
    have a0 := RA.cell (i := 0) (v := .slice none 0 0) (by rfl)
    have b0 := RP.cell (i := 0) (v := .int .i64 0) (by rfl)
    have b1 := RP.cell (i := 1) (v := .int .i64 0) (by rfl)
    have hsep : w1.heap.size + 1 ≠ w.heap.size + 1 := by have h1 := HBX.out.lt; have h2 := hb.size; omega
    have b0' := (cell_far hsep 0 (.slice none 0 0) (o := 0)).trans b0
    have b1' := (cell_far hsep 0 (.slice none 0 0) (o := 1)).trans b1
    have HX1 := Lib.hid (HBX.out.below hbx HBX.out.lt)
    have n0 := HX1.out.cell (i := 0) (v := .slice none 0 0) (by rfl)
    have f0 := HX1.out.frozen 0
    clear hb hbx RA RP g1 hsep
    go_wp2
    go_region
    all_goals go_wp2
    all_goals (
      refine bodyPost_ret (v := .tuple #[.agg #[.slice none 0 0], .bool false]) ?_ rfl (.inl ⟨HN.out, _, [], rfl, ?_, ?_⟩)
      · have d0 := (HX1.out.set 0 (.slice none 0 0)).cell (i := 0) (v := .slice none 0 0) (by rfl)
        first | (simp [results, Tryd.results27, go_sem, d0]; done) | (simp [results, Tryd.results27, go_sem]; done)
      · repeat (first | exact OwnGr.nil _ _ | refine OwnGr.drew ?_ | exact HO.out.past HX1.out)
      · repeat (first | exact HB1.out | apply Below.drew | refine Below.setCell ?_ (by simp <;> omega) _))
  · obtain ⟨l, hl⟩ : ∃ l, addP ss i ⟨3, nm, -1⟩ = l := ⟨_, rfl⟩
    rw [hl] at hO
    obtain ⟨ov, cv, rfl, -⟩ := hO.holds
    obtain ⟨z, hz⟩ : ∃ z : Int, (c.items.length : Int) = z := ⟨_, rfl⟩
    have HK : Hid (addOk ss (i : Int) nm ∧ addAt ss (i : Int) 3 nm = l) := Lib.hid ⟨⟨⟨hv, i, c, rfl, hci, hl5⟩, hnm⟩, by unfold addAt; rw [Int.toNat_natCast, hl]⟩
    rw [hz]
    have hbN := ((Below.refl w1.heap.size w1).alloc (Nat.le_refl _) (.cells #[.slice ov l.length cv] 30)).alloc (by simp) (.cells #[.int .i64 (i : Int), .int .i64 z] 34)
    have HO := Lib.hid ((hO.below hbN).lower HB.out.size)
    clear hv hci hl5 hnm hz hO hbN hl
    have hbx := hb.trans ((((Below.refl w1.heap.size w1).alloc (Nat.le_refl _) (.cells #[.slice ov l.length cv] 30)).alloc (by simp) (.cells #[.int .i64 (i : Int), .int .i64 z] 34)).mono hb.size)
    have HB1 := Lib.hid (HB.out.trans (hbx.mono HB.out.size))
    have RA := (Row.new w1 [.slice ov l.length cv] 30).alloc (.cells #[.int .i64 (i : Int), .int .i64 z] 34)
    have RP := Row.new (w1.alloc (.cells #[.slice ov l.length cv] 30)) [.int .i64 (i : Int), .int .i64 z] 34
    rw [World.size_alloc] at RP
    have a0 := RA.cell (i := 0) (v := .slice ov l.length cv) (by rfl)
    have b0 := RP.cell (i := 0) (v := .int .i64 (i : Int)) (by rfl)
    have b1 := RP.cell (i := 1) (v := .int .i64 z) (by rfl)
    have hsep : w1.heap.size + 1 ≠ w.heap.size + 1 := by have h1 := HBX.out.lt; have h2 := hb.size; omega
    have b0' := (cell_far hsep 0 (.slice ov l.length cv) (o := 0)).trans b0
    have b1' := (cell_far hsep 0 (.slice ov l.length cv) (o := 1)).trans b1
    have HX1 := Lib.hid (HBX.out.below hbx HBX.out.lt)
    have n0 := HX1.out.cell (i := 0) (v := .slice none 0 0) (by rfl)
    have f0 := HX1.out.frozen 0
    clear hb hbx RA RP g1 hsep
    go_wp2
    go_region
    all_goals go_wp2
    all_goals (
      refine bodyPost_ret (v := .tuple #[.agg #[.slice ov l.length cv], .bool true]) ?_ rfl (.inr ⟨HK.out.1, _, hs, rfl, ?_, ?_⟩)
      · have d0 := (HX1.out.set 0 (.slice ov l.length cv)).cell (i := 0) (v := .slice ov l.length cv) (by rfl)
        first | (simp [results, Tryd.results27, go_sem, d0]; done) | (simp [results, Tryd.results27, go_sem]; done)
      · rw [HK.out.2]; repeat (first | exact HO.out | refine OwnGr.drew ?_ | exact HO.out.past HX1.out)
      · repeat (first | exact HB1.out | apply Below.drew | refine Below.setCell ?_ (by simp <;> omega) _))
end Go.Proofs.YtadpgoiiopfnnaaDoor
