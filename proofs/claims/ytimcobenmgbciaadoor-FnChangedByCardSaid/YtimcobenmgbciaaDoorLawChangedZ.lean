/-
  The walk of the given DrawChangedBy: a small graph and a place; and of the law FnChangedBy: at every code it returns true, and only new memory is written. Condition: the package-level errors hold errors.
-/
import Derived.Test.YtimcobenmgbciaaDoorWDrawResZ
import Derived.Test.YtimcobenmgbciaaDoorRmvRefZ
import Derived.Test.YtimcobenmgbciaaDoorWSameZ
import Derived.Test.YtimcobenmgbciaaDoorWSgInZ
import Derived.Test.YtimcobenmgbciaaDoorWChg6BZ
import Derived.Test.YtimcobenmgbciaaDoorWUsrI2Z
import Derived.Test.YtimcobenmgbciaaDoorJBZ
namespace Go.Proofs.YtimcobenmgbciaaDoor
open Go Go.RowKit Sg
set_option maxRecDepth 100000 in
set_option maxHeartbeats 8000000 in
theorem drawChangedBy_any {w : World} {oa : Option Addr} {len cap : Nat} (h : HoldsBytes w oa len) (hl : len ≤ 2 ^ 62) (hlc : len ≤ cap) : Calls Tryd.prog 24 #[.slice oa len cap] w (DrawnP w) := by
  have hbA : Below w.heap.size w ((w.alloc (.cells #[.slice none 0 0] 25)).alloc (.cells #[.int .i64 0, .int .i64 0] 27)) := ((Below.refl _ _).alloc (Nat.le_refl _) _).alloc (by simp) _
  have RA := Lib.hid ((Row.new w [.slice none 0 0] 25).alloc (.cells #[.int .i64 0, .int .i64 0] 27))
  have hRB := Row.new (w.alloc (.cells #[.slice none 0 0] 25)) [.int .i64 0, .int .i64 0] 27
  rw [World.size_alloc] at hRB
  have RB := Lib.hid hRB
  have C := Lib.hid (open_any (h.below hbA) hl hlc)
  have HBA := Lib.hid hbA
  clear h hbA hl hlc hRB
  go_enter Tryd.func24, Tryd.ntmps24
  go_wp2_with fail
  refine C.out.mono ?_
  rintro e w1 ⟨r, ob, n, c, rfl, hr, hrd, hb1⟩
  have HBR := Lib.hid (HBA.out.trans (hb1.mono HBA.out.size))
  have R1 := Lib.hid (RA.out.below hb1 RA.out.lt)
  have R1b := Lib.hid (RB.out.below hb1 RB.out.lt)
  have C2 := Lib.hid (some4_any hrd (by omega))
  have HRR := Lib.hid (show w.heap.size + 1 < r by simp at hr; omega)
  clear hr hrd hb1
  go_wp2_with fail
  refine C2.out.mono ?_
  rintro e w2 ⟨ss, ov, cv, a, b, rfl, ⟨hs, hh⟩, hl, ha, hb, hbel⟩
  have hbl := hbel r (Nat.le_refl _)
  have R2 := Lib.hid (R1.out.below hbl (by have := HRR.out; omega))
  have R2b := Lib.hid (R1b.out.below hbl HRR.out)
  have HB2 := Lib.hid (HBR.out.trans (hbel w.heap.size (by have := HRR.out; omega)))
  have HF := Lib.hid (And.intro hl (And.intro ha hb))
  have HH := Lib.hid ((((hh.other R2.out (by decide) (by decide) 0 (.slice ov ss.length cv)).other (R2b.out.other (a := ⟨w.heap.size, 0, none⟩) (by simp) (.slice ov ss.length cv)) (by decide) (by decide) 0 (.int .i64 a)).other ((R2b.out.other (a := ⟨w.heap.size, 0, none⟩) (by simp) (.slice ov ss.length cv)).set 0 (.int .i64 a)) (by decide) (by decide) 1 (.int .i64 b)))
  have n0 := R2.out.cell (i := 0) (v := .slice none 0 0) (by rfl)
  have f0 := R2.out.frozen 0
  have R3 := R2b.out.other (a := ⟨w.heap.size, 0, none⟩) (by simp) (.slice ov ss.length cv)
  have m0 := R3.cell (i := 0) (v := .int .i64 0) (by rfl)
  have m1 := R3.cell (i := 1) (v := .int .i64 0) (by rfl)
  have f3 : ∀ k, (w2.setCell ⟨w.heap.size, 0, none⟩ (.slice ov ss.length cv)).frozen? ⟨w.heap.size + 1, k, none⟩ = false := fun k => R3.frozen k
  have R3b := (R3.set 0 (.int .i64 a)).set 1 (.int .i64 b)
  have d30 := R3b.cell (i := 0) (v := .int .i64 a) (by rfl)
  have d31 := R3b.cell (i := 1) (v := .int .i64 b) (by rfl)
  have R2c := ((R2.out.set 0 (.slice ov ss.length cv)).other (a := ⟨w.heap.size + 1, 0, none⟩) (by simp) (.int .i64 a)).other (a := ⟨w.heap.size + 1, 1, none⟩) (by simp) (.int .i64 b)
  have d2 := R2c.cell (i := 0) (v := .slice ov ss.length cv) (by rfl)
  clear hh hl ha hb hbel hbl R3 R3b R2c
  go_wp2
  obtain ⟨oe, ce, he, hH⟩ := HH.out.holds
  cases he
  exact bodyPost_ret (v := .tuple #[.agg #[.slice ov ss.length cv], .agg #[.int .i64 a, .int .i64 b]]) (by simp [results, Tryd.results24, go_sem, d2, d30, d31]) rfl ⟨ss, ov, cv, a, b, rfl, hH, HF.out.1, HF.out.2.1, HF.out.2.2, ((HB2.out.setCell (Nat.le_refl _) _).setCell (by simp) _).setCell (by simp) _⟩
theorem filtL_mem {f : Nat × Nat × It → Bool} {l : List (Nat × Nat × It)} {p : Int × Int} (h : p ∈ filtL f l) : ∃ q ∈ l, f q = true ∧ plOf q = p := by
  unfold filtL at h
  obtain ⟨q, hq, rfl⟩ := List.mem_map.1 h
  exact ⟨q, (List.mem_filter.1 hq).1, (List.mem_filter.1 hq).2, rfl⟩
theorem filtL_in {f : Nat × Nat × It → Bool} {l : List (Nat × Nat × It)} {q : Nat × Nat × It} (hq : q ∈ l) (h : f q = true) : plOf q ∈ filtL f l := by
  unfold filtL
  exact List.mem_map.2 ⟨q, List.mem_filter.2 ⟨hq, h⟩, rfl⟩
theorem decl_mean {ss : List Sc} {i j : Nat} {x : It} (h : x.kind = 1) : meanIt ss (i, j, x) = [((i : Int), (j : Int))] := by
  unfold meanIt
  rw [if_neg (by show ¬ x.kind = 2; omega), if_neg (by show ¬ x.kind = 3; omega)]
/-- Who uses what is removed means something else. -/
theorem users_change {ss : List Sc} (hv : Valid ss) {a b : Nat} {p : Int × Int} (h : p ∈ usersP ss ((a : Int), (b : Int))) : p ∈ chgP ss a b := by
  obtain ⟨⟨i, j, x⟩, hq, hf, rfl⟩ := filtL_mem h
  unfold aloneB at hf
  simp only [Bool.and_eq_true, decide_eq_true_eq] at hf
  refine filtL_in hq ?_
  unfold chgB sameB
  have h1 : ((a : Int), (b : Int)) ∈ meanIt ss (i, j, x) := by rw [hf.2]; exact List.mem_singleton.2 rfl
  rw [decide_eq_true h1]
  have hne : ¬ (i = a ∧ j = b) := by
    rintro ⟨rfl, rfl⟩
    rcases kind_cases hv hq with hk | hk
    · exact hf.1 hk
    · obtain ⟨y, hy, hyk, _⟩ := mean_declM hk h1
      have h2 := placed_item hq
      dsimp only at h2 hy
      rw [h2] at hy
      obtain rfl := Option.some.inj hy
      exact hf.1 hyk
  rw [decide_eq_false (show ¬ ((i, j, x).1 = a ∧ (i, j, x).2.1 = b) from hne)]
  rfl
theorem changed_not {ss : List Sc} {a b : Nat} : ((a : Int), (b : Int)) ∉ chgP ss a b := by
  intro h
  obtain ⟨⟨i, j, x⟩, _, hf, he⟩ := filtL_mem h
  unfold plOf at he
  have h1 := Prod.mk.inj he
  dsimp only at h1
  unfold chgB at hf
  rw [decide_eq_true (show (i, j, x).1 = a ∧ (i, j, x).2.1 = b from ⟨by dsimp only; omega, by dsimp only; omega⟩)] at hf
  simp at hf
/-- What means something else is no declaration. -/
theorem changed_kind {ss : List Sc} {a b : Nat} {p : Int × Int} (h : p ∈ chgP ss a b) : ∃ y, itemAtP ss p.1 p.2 = some y ∧ y.kind ≠ 1 := by
  obtain ⟨⟨i, j, x⟩, hq, hf, rfl⟩ := filtL_mem h
  refine ⟨x, placed_item hq, fun hk => ?_⟩
  unfold chgB at hf
  simp only [Bool.and_eq_true, Bool.not_eq_true', decide_eq_false_iff_not] at hf
  have hk' : x.kind = 1 := hk
  have hs : sameB ss a b (i, j, x) = true := by
    unfold sameB
    dsimp only
    rw [decl_mean hk', decl_mean hk']
    have h1 : ((a : Int), (b : Int)) ∉ [((i : Int), (j : Int))] := fun e => by
      have h2 := Prod.mk.inj (List.mem_singleton.1 e)
      exact hf.1 ⟨by omega, by omega⟩
    rw [decide_eq_false h1]
    simp [aftI_nat]
  rw [hs] at hf
  exact absurd hf.2 (by decide)
theorem list_selfC (ps : List (Int × Int)) (oa ob : Option Addr) (ca cb : Nat) (w : World) (hn : ps.length ≤ 1000000) (ha : ArgPlaces w oa ps) (hb : ArgPlaces w ob ps) :
    Calls Tryd.prog 17 #[.slice oa ps.length ca, .slice ob ps.length cb] w fun e w' => e = .returned (.bool true) ∧ Below w.heap.size w w' :=
  (sgPlaces_any ps ps oa ob ca cb w hn hn ha hb).mono (by rintro e w' ⟨t, rfl, ht, hb⟩; exact ⟨by rw [ht.2 rfl], hb⟩)
theorem wf_place {ss : List Sc} (hv : Valid ss) {p : Int × Int} {y : It} (h : itemAtP ss p.1 p.2 = some y) : (Lit.int .i64 p.1).wf = true ∧ (Lit.int .i64 p.2).wf = true := by
  obtain ⟨i, j, h1, h2, hq⟩ := item_placed h
  have hlt := hv.small.lt hq
  dsimp only at hlt
  rw [h1, h2]
  exact ⟨wf_small hlt.1, wf_small hlt.2⟩
/-- An item that is there, as ItemAt hands it back. -/
theorem itemAt_hereC {ss : List Sc} (hF : Fair ss) (hv : Valid ss) {oa : Option Addr} {cap : Nat} {a b : Int} {x : It} (hx : itemAtP ss a b = some x) (w : World) (hc : HoldsScopes w oa ss) (hE : TreeErrs w) :
    Calls Tryd.prog 21 #[.agg #[.slice oa ss.length cap], .agg #[.int .i64 a, .int .i64 b]] w fun e w' => e = .returned (.tuple #[.agg #[.int .i64 x.kind, .string x.name, .int .i64 x.scope], .bool true]) ∧ Below w.heap.size w w' := by
  obtain ⟨h1, h2⟩ := wf_place hv (p := (a, b)) hx
  refine (implItemAt_any ss hF oa cap a b h1 h2 w hc hE).mono ?_
  rintro e w' ⟨y, ok, rfl, ⟨_, h3, rfl⟩ | ⟨hn, _, _⟩, hb⟩
  · rw [hx] at h3
    cases h3
    exact ⟨rfl, hb⟩
  · exact absurd ⟨hv, by rw [hx]; rfl⟩ hn
theorem len_nil {l : List (Int × Int)} : ((l.length : Int) == 0) = decide (l = []) := by
  cases l with
  | nil => rfl
  | cons x r => rw [decide_eq_false (by simp)]; exact beq_eq_false_iff_ne.2 (by simp; omega)
set_option maxRecDepth 100000 in
set_option maxHeartbeats 16000000 in
theorem lawChangedBy {w : World} {oa : Option Addr} {len cap : Nat} (h : HoldsBytes w oa len) (hlc : len ≤ cap) (hE : TreeErrs w) :
    Calls Tryd.prog 4 #[.slice oa len cap] w fun e w' => e = .returned (.bool true) ∧ Below w.heap.size w w' := by
  by_cases hn : (1048576 : Int) < (len : Int)
  · clear h hE
    go_enter Tryd.func4, Tryd.ntmps4
    go_wp2
    go_ret
    exact ⟨rfl, Below.refl _ _⟩
  have C := Lib.hid (drawChangedBy_any h (by omega) hlc)
  have HE := Lib.hid hE
  clear h hE hlc
  go_enter Tryd.func4, Tryd.ntmps4
  go_wp2_with fail
  refine C.out.mono ?_
  rintro e w1 ⟨ss, ov, cv, a, b, rfl, hh, hl, ha, hb, hb1⟩
  have HF := Lib.hid (hl.fair (by omega))
  have HPL : Hid ((placed 0 ss).length ≤ 44100) := Lib.hid (placed_bound 0 ss 210 210 hl.count hl.items)
  have HWF : Hid ((Lit.int .i64 a).wf = true ∧ (Lit.int .i64 b).wf = true) := Lib.hid ⟨WalkArith.wf_i64 (by unfold I64 at ha; omega), WalkArith.wf_i64 (by unfold I64 at hb; omega)⟩
  have hbA := ((Below.refl w1.heap.size w1).alloc (Nat.le_refl _) (.cells #[.slice ov ss.length cv] 25)).alloc (by simp) (.cells #[.int .i64 a, .int .i64 b] 27)
  have HA := Lib.hid (belowS hb1 hbA)
  have HC := Lib.hid (hh.below hbA (Nat.le_refl _))
  have RB := Lib.hid ((Row.new w1 [.slice ov ss.length cv] 25).alloc (.cells #[.int .i64 a, .int .i64 b] 27))
  have RP := Row.new (w1.alloc (.cells #[.slice ov ss.length cv] 25)) [.int .i64 a, .int .i64 b] 27
  rw [World.size_alloc] at RP
  have RP := Lib.hid RP
  have HEA := Lib.hid (HE.out.at HA.out)
  clear hh hl hb1 hbA ha hb
  go_wp2_with fail
  refine (implChangedBy_any ss HF.out ov cv a b HWF.out.1 HWF.out.2 _ HC.out HEA.out).mono ?_
  intro e w2 hgot
  obtain ⟨o1, c1, xs, ok, rfl, hv1, ha1, -, hb2⟩ := hgot.val
  generalize (w1.alloc (.cells #[.slice ov ss.length cv] 25)).alloc (.cells #[.int .i64 a, .int .i64 b] 27) = wA at *
  have V1 := Lib.hid hv1
  have A1 := Lib.hid ha1
  have X2 := Lib.hid hb2
  have r2 := (RB.out.below X2.out RB.out.lt).cell (i := 0) (v := .slice ov ss.length cv) (by rfl)
  have p20 := (RP.out.below X2.out RP.out.lt).cell (i := 0) (v := .int .i64 a) (by rfl)
  have p21 := (RP.out.below X2.out RP.out.lt).cell (i := 1) (v := .int .i64 b) (by rfl)
  clear hgot hv1 ha1 hb2
  go_wp2_with fail
  refine (specChangedBy_any ss HF.out ov cv a b _ (HC.out.below X2.out (Nat.le_refl _))).mono ?_
  intro e w3 hgot
  obtain ⟨o2, c2, ys, ok', rfl, hv2, ha2, hb3⟩ := hgot.val
  obtain ⟨rfl, rfl⟩ := hv2.same V1.out
  have A2 := Lib.hid ha2
  have A1a := Lib.hid (A1.out.below hb3)
  have X3 := Lib.hid (belowS X2.out hb3)
  have r3 := (RB.out.below X3.out RB.out.lt).cell (i := 0) (v := .slice ov ss.length cv) (by rfl)
  have p30 := (RP.out.below X3.out RP.out.lt).cell (i := 0) (v := .int .i64 a) (by rfl)
  have p31 := (RP.out.below X3.out RP.out.lt).cell (i := 1) (v := .int .i64 b) (by rfl)
  clear hgot hv2 ha2 hb3 r2 p20 p21
  go_wp2_with fail
  refine (implCanRemove_any ss HF.out ov cv a b HWF.out.1 HWF.out.2 _ (HC.out.below X3.out (Nat.le_refl _)) (HEA.out.at X3.out)).mono ?_
  rintro e w4 ⟨q, rfl, hq, hb4⟩
  have Q4 := Lib.hid hq
  have A1b := Lib.hid (A1a.out.below hb4)
  have A2b := Lib.hid (A2.out.below hb4)
  have X4 := Lib.hid (belowS X3.out hb4)
  have hyl : ys.length ≤ 1000000 := by
    rcases V1.out with ⟨_, rfl, _⟩ | ⟨hok, rfl, _⟩
    · simp
    · have h1 := filtL_short hok.1 (chgB ss a.toNat b.toNat)
      unfold chgPI chgP
      omega
  have hoo : (ok' == ok') = true := by simp
  have hon : (ok' != ok') = false := by simp
  have hqq : (q == q) = true := by simp
  have hqn : (q != q) = false := by simp
  clear hq hb4 r3 p30 p31
  go_wp2_with fail
  refine (list_selfC ys o1 o2 c1 c2 _ hyl A1b.out A2b.out).mono ?_
  rintro e w6 ⟨rfl, hb6⟩
  have A1d := Lib.hid (A1b.out.below hb6)
  have A2d := Lib.hid (A2b.out.below hb6)
  have X6 := Lib.hid (belowS X4.out hb6)
  have r6 := (RB.out.below X6.out RB.out.lt).cell (i := 0) (v := .slice ov ss.length cv) (by rfl)
  have p60 := (RP.out.below X6.out RP.out.lt).cell (i := 0) (v := .int .i64 a) (by rfl)
  have p61 := (RP.out.below X6.out RP.out.lt).cell (i := 1) (v := .int .i64 b) (by rfl)
  clear hb6
  go_wp2_with fail
  refine (specCanRemove_any ss HF.out ov cv a b _ (HC.out.below X6.out (Nat.le_refl _))).mono ?_
  rintro e w7 ⟨q', rfl, hq', hb7⟩
  obtain rfl := (hq'.same Q4.out).symm
  have A1e := Lib.hid (A1d.out.below hb7)
  have A2e := Lib.hid (A2d.out.below hb7)
  have X7 := Lib.hid (belowS X6.out hb7)
  clear hq' hb7 r6 p60 p61
  cases ok'
  · obtain ⟨hnok, rfl⟩ : ¬ itemHas ss a b ∧ ys = [] := by
      rcases V1.out with ⟨h1, h2, _⟩ | ⟨_, _, h3⟩
      · exact ⟨h1, h2⟩
      · cases h3
    obtain rfl : q = false := by
      rcases Q4.out with ⟨_, h2⟩ | ⟨h1, _⟩
      · exact h2
      · exact absurd h1 hnok
    have HN := Lib.hid hnok
    clear hnok V1 Q4
    go_wp2_with fail
    refine (list_selfC [] o1 o2 c1 c2 _ (by simp) A1e.out A2e.out).mono ?_
    rintro e w10 ⟨rfl, hb10⟩
    have X10 := Lib.hid (belowS X7.out hb10)
    have r10 := (RB.out.below X10.out RB.out.lt).cell (i := 0) (v := .slice ov ss.length cv) (by rfl)
    have p100 := (RP.out.below X10.out RP.out.lt).cell (i := 0) (v := .int .i64 a) (by rfl)
    have p101 := (RP.out.below X10.out RP.out.lt).cell (i := 1) (v := .int .i64 b) (by rfl)
    clear hb10
    go_wp2_with fail
    refine (specCanRemove_any ss HF.out ov cv a b _ (HC.out.below X10.out (Nat.le_refl _))).mono ?_
    rintro e w11 ⟨q', rfl, hq', hb11⟩
    obtain rfl : q' = false := by
      rcases hq' with ⟨_, h2⟩ | ⟨h1, _⟩
      · exact h2
      · exact absurd h1 HN.out
    have X11 := Lib.hid (belowS X10.out hb11)
    clear hq' hb11 r10 p100 p101
    go_wp2
    go_ret
    exact ⟨rfl, belowS HA.out X11.out⟩
  · obtain ⟨hok, hys⟩ : itemHas ss a b ∧ ys = chgPI ss a b := by
      rcases V1.out with ⟨_, _, h3⟩ | ⟨h1, h2, _⟩
      · cases h3
      · exact ⟨h1, h2⟩
    have hq : q = decide (ys = []) := by
      rcases Q4.out with ⟨h1, _⟩ | ⟨_, h2⟩
      · exact absurd hok h1
      · rw [hys]; exact h2
    obtain ⟨hv, hsome⟩ := hok
    obtain ⟨x, hx⟩ := Option.isSome_iff_exists.1 hsome
    obtain ⟨i, j, rfl, rfl, hpq⟩ := item_placed hx
    rw [chgPI_nat] at hys
    obtain ⟨c0, hsc, hxc⟩ := placed_at hpq
    dsimp only at hsc hxc
    have hlen : ((ys.length : Int) == 0) = q := by rw [hq]; exact len_nil
    have HV := Lib.hid hv
    have HX := Lib.hid hx
    have HSU : Hid (∀ p ∈ usersP ss ((i : Int), (j : Int)), p ∈ ys) := Lib.hid (fun p hp => by rw [hys]; exact users_change hv hp)
    have HNO : Hid (decide (((i : Int), (j : Int)) ∈ ys) = false) := Lib.hid (decide_eq_false (by rw [hys]; exact changed_not))
    have HKD : Hid (∀ p ∈ ys, ∃ y, itemAtP ss p.1 p.2 = some y ∧ y.kind ≠ 1) := Lib.hid (fun p hp => changed_kind (by rw [← hys]; exact hp))
    have HRF : Hid (x.kind = 2 → ys = []) := Lib.hid (fun hk => by rw [hys]; exact RefAt.same ⟨hv, hsc, hxc, hk⟩)
    have HL30 : Hid (ys.length ≤ 30) := Lib.hid (by rw [hys]; exact filtL_short hv _)
    have HU30 : Hid ((usersP ss ((i : Int), (j : Int))).length ≤ 30) := Lib.hid (filtL_short hv _)
    have r7 := (RB.out.below X7.out RB.out.lt).cell (i := 0) (v := .slice ov ss.length cv) (by rfl)
    have p70 := (RP.out.below X7.out RP.out.lt).cell (i := 0) (v := .int .i64 (i : Int)) (by rfl)
    have p71 := (RP.out.below X7.out RP.out.lt).cell (i := 1) (v := .int .i64 (j : Int)) (by rfl)
    clear hv hsome hx hpq hys V1 Q4 hsc hxc hq
    go_wp2_with fail
    refine (implUsersOf_any ss HF.out ov cv (i : Int) (j : Int) HWF.out.1 HWF.out.2 _ (HC.out.below X7.out (Nat.le_refl _)) (HEA.out.at X7.out)).mono ?_
    intro e w8 hgot
    obtain ⟨o3, c3, zs, dk, rfl, hv3, ha3, -, hb8⟩ := hgot.val
    have HZ : Hid ((∀ p ∈ zs, p ∈ ys) ∧ zs.length ≤ 30) := Lib.hid (by
      rcases hv3 with ⟨_, rfl, _⟩ | ⟨_, rfl, _⟩
      · exact ⟨fun p hp => by simp at hp, by simp⟩
      · exact ⟨HSU.out, HU30.out⟩)
    have hdk : (x.kind == 1) = dk := by
      rcases hv3 with ⟨h1, _, rfl⟩ | ⟨h1, _, rfl⟩
      · exact beq_eq_false_iff_ne.2 (fun hk => h1 ⟨HV.out, x, HX.out, hk⟩)
      · obtain ⟨_, y, hy, hk⟩ := h1
        rw [HX.out] at hy
        obtain rfl := Option.some.inj hy
        rw [hk]; rfl
    have hdd : (dk == dk) = true := by simp
    have A8 := Lib.hid (A1e.out.below hb8)
    have AZ := Lib.hid ha3
    have X8 := Lib.hid (belowS X7.out hb8)
    have hz30 := HZ.out.2
    have hy30 := HL30.out
    clear hgot hv3 ha3 hb8 r7 p70 p71
    go_wp2
    go_loopw [106] (fun i wr => ∃ k : Nat, i = .int .i64 k ∧ k ≤ zs.length ∧ Hid (Below w8.heap.size w8 wr)) (fun i _ => zs.length - (intOf i).toNat)
    case atStart => exact ⟨0, rfl, Nat.zero_le _, Lib.hid (Below.refl _ _)⟩
    case round =>
      obtain ⟨k, rfl, hk, HW⟩ := hrel
      have XR := Lib.hid (belowS X8.out HW.out)
      by_cases hlt : k < zs.length
      · obtain ⟨⟨c, d⟩, hp⟩ : ∃ p, zs[k]? = some p := ⟨_, List.getElem?_eq_getElem hlt⟩
        have hin : decide ((c, d) ∈ ys) = true := decide_eq_true (HZ.out.1 _ (List.mem_of_getElem? hp))
        obtain ⟨b2, f2, rfl, hb2, q1⟩ := (AZ.out.below HW.out).at (by omega)
        obtain ⟨y0, y1⟩ := q1 k _ hp
        dsimp only at y0 y1
        have hbP := (Below.refl wr.heap.size wr).alloc (Nat.le_refl _) (.cells #[.int .i64 c, .int .i64 d] 27)
        have HWP := Lib.hid (HW.out.trans (hbP.mono HW.out.size))
        have RQ := Row.new wr [.int .i64 c, .int .i64 d] 27
        have q0 := RQ.cell (i := 0) (v := .int .i64 c) (by rfl)
        have q1' := RQ.cell (i := 1) (v := .int .i64 d) (by rfl)
        have HIN := Lib.hid hin
        have hk0 : (0 : Int) ≤ (k : Int) := by omega
        have hk1 : (k : Int) < (zs.length : Int) := by omega
        clear hb2 hbP RQ hp q1 hin
        go_wp2_with fail
        refine (sgIn_any ys o1 c1 c d _ hyl (A8.out.below HWP.out)).mono ?_
        rintro e w10 ⟨rfl, hb10⟩
        rw [HIN.out]
        have HWJ := Lib.hid (HWP.out.trans (hb10.mono HWP.out.size))
        clear hb10 q0 q1' y0 y1
        go_wp2
        go_roundw
        case rel => exact ⟨k + 1, by go_num, by omega, HWJ⟩
        case measure => simp only [intOf]; omega
      · obtain rfl : k = zs.length := by omega
        have AR := Lib.hid (A8.out.below HW.out)
        obtain ⟨wL, rfl⟩ : ∃ wL, wL = wr := ⟨wr, rfl⟩
        have rr := (RB.out.below XR.out RB.out.lt).cell (i := 0) (v := .slice ov ss.length cv) (by rfl)
        have pr0 := (RP.out.below XR.out RP.out.lt).cell (i := 0) (v := .int .i64 (i : Int)) (by rfl)
        have pr1 := (RP.out.below XR.out RP.out.lt).cell (i := 1) (v := .int .i64 (j : Int)) (by rfl)
        go_wp2_with fail
        refine (itemAt_hereC HF.out HV.out HX.out _ (HC.out.below XR.out (Nat.le_refl _)) (HEA.out.at XR.out)).mono ?_
        rintro e w9 ⟨rfl, hb9⟩
        have hbI := hb9.trans (((Below.refl w9.heap.size w9).alloc (Nat.le_refl _) (.cells #[.int .i64 x.kind, .string x.name, .int .i64 x.scope] 38)).mono hb9.size)
        have RX := Lib.hid (Row.new w9 [.int .i64 x.kind, .string x.name, .int .i64 x.scope] 38)
        have X9 := Lib.hid (belowS XR.out hbI)
        have A9 := Lib.hid (AR.out.below hbI)
        have x0 := RX.out.cell (i := 0) (v := .int .i64 x.kind) (by rfl)
        have pi0 := (RP.out.below X9.out RP.out.lt).cell (i := 0) (v := .int .i64 (i : Int)) (by rfl)
        have pi1 := (RP.out.below X9.out RP.out.lt).cell (i := 1) (v := .int .i64 (j : Int)) (by rfl)
        clear hb9 hbI rr pr0 pr1
        go_wp2_with fail
        generalize w9.alloc (.cells #[.int .i64 x.kind, .string x.name, .int .i64 x.scope] 38) = wX at *
        refine (sgIn_any ys o1 c1 (i : Int) (j : Int) _ hyl A9.out).mono ?_
        rintro e w10 ⟨rfl, hb10⟩
        rw [HNO.out]
        have RX2 := Lib.hid (RX.out.below hb10 RX.out.lt)
        have X10 := Lib.hid (belowS X9.out hb10)
        have A10 := Lib.hid (A9.out.below hb10)
        have x0 := RX2.out.cell (i := 0) (v := .int .i64 x.kind) (by rfl)
        clear hb10 pi0 pi1
        have hgo : (x.kind == 2) = true ∧ decide (0 < ys.length) = false ∨ (x.kind == 2) = false := by
          by_cases hk2 : x.kind = 2
          · left
            rw [HRF.out hk2]
            exact ⟨by rw [hk2]; rfl, by simp⟩
          · exact .inr (beq_eq_false_iff_ne.2 hk2)
        rcases hgo with ⟨hg1, hg2⟩ | hg1
        all_goals
          go_wp2
          try clear hg2
          go_loopw [136] (fun i wr => ∃ k : Nat, i = .int .i64 k ∧ k ≤ ys.length ∧ Hid (Below w10.heap.size w10 wr)) (fun i _ => ys.length - (intOf i).toNat)
          case atStart => exact ⟨0, rfl, Nat.zero_le _, Lib.hid (Below.refl _ _)⟩
          case round =>
            obtain ⟨k, rfl, hk, HW⟩ := hrel
            have XR := Lib.hid (belowS X10.out HW.out)
            by_cases hlt : k < ys.length
            · obtain ⟨⟨c, d⟩, hp⟩ : ∃ p, ys[k]? = some p := ⟨_, List.getElem?_eq_getElem hlt⟩
              obtain ⟨y, hy, hyk⟩ := HKD.out (c, d) (List.mem_of_getElem? hp)
              dsimp only at hy
              obtain ⟨b2, f2, rfl, hb2, q1⟩ := (A10.out.below HW.out).at (by omega)
              obtain ⟨y0, y1⟩ := q1 k _ hp
              dsimp only at y0 y1
              have hbP := (Below.refl wr.heap.size wr).alloc (Nat.le_refl _) (.cells #[.int .i64 c, .int .i64 d] 27)
              have XP := Lib.hid (belowS XR.out hbP)
              have HWP := Lib.hid (HW.out.trans (hbP.mono HW.out.size))
              have rr := (RB.out.below XP.out RB.out.lt).cell (i := 0) (v := .slice ov ss.length cv) (by rfl)
              have RQ := Row.new wr [.int .i64 c, .int .i64 d] 27
              have q0 := RQ.cell (i := 0) (v := .int .i64 c) (by rfl)
              have q1' := RQ.cell (i := 1) (v := .int .i64 d) (by rfl)
              have HY := Lib.hid hy
              have hyk1 : (y.kind == 1) = false := beq_eq_false_iff_ne.2 hyk
              have hk0 : (0 : Int) ≤ (k : Int) := by omega
              have hk1 : (k : Int) < (ys.length : Int) := by omega
              clear hb2 hbP RQ hp q1 hy hyk
              go_wp2_with fail
              refine (itemAt_hereC HF.out HV.out HY.out _ (HC.out.below XP.out (Nat.le_refl _)) (HEA.out.at XP.out)).mono ?_
              rintro e w11 ⟨rfl, hb11⟩
              have hbJ := hb11.trans (((Below.refl w11.heap.size w11).alloc (Nat.le_refl _) (.cells #[.int .i64 y.kind, .string y.name, .int .i64 y.scope] 38)).mono hb11.size)
              have HWJ := Lib.hid (HWP.out.trans (hbJ.mono HWP.out.size))
              clear hb11 hbJ rr q0 q1' y0 y1
              go_wp2
              go_roundw
              case rel => exact ⟨k + 1, by go_num, by omega, HWJ⟩
              case measure => simp only [intOf]; omega
            · obtain rfl : k = ys.length := by omega
              have x0 := (RX2.out.below HW.out RX2.out.lt).cell (i := 0) (v := .int .i64 x.kind) (by rfl)
              go_wp2
              go_ret
              exact ⟨by simp, belowS HA.out XR.out⟩
end Go.Proofs.YtimcobenmgbciaaDoor
