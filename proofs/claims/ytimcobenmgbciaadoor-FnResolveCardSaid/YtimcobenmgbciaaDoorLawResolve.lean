/-
  The walk of the law FnResolve: at every code it returns true, and only new memory is written. Conditions: the package-level errors hold errors, the table of words holds its words.
-/
import Derived.Test.YtimcobenmgbciaaDoorWDrawRes
import Derived.Test.YtimcobenmgbciaaDoorWSame
import Derived.Test.YtimcobenmgbciaaDoorWName
import Derived.Test.YtimcobenmgbciaaDoorWImplLook
import Derived.Test.YtimcobenmgbciaaDoorJE
import Derived.Test.YtimcobenmgbciaaDoorWSpecItems
import Derived.Test.YtimcobenmgbciaaDoorMeanD
import Derived.Test.YtimcobenmgbciaaDoorJB
import Derived.Deep.QuietTactic
import Derived.BigQuiet
namespace Go.Proofs.YtimcobenmgbciaaDoor
open Go Go.RowKit Sg
theorem name_ofPlaced {ss : List Sc} (hv : Valid ss) {i j : Nat} {x : It} (hq : (i, j, x) ∈ placed 0 ss) : nameB x.name = true := by
  have h3 := hv.items
  rw [← placed_flat] at h3
  have h4 := (h3.1 (i, x) (List.mem_map.2 ⟨(i, j, x), hq, rfl⟩)).1
  unfold itemB at h4
  simp only [Bool.and_eq_true] at h4
  exact h4.1.1
/-- What an item means are declarations with its name. -/
theorem mean_named {ss : List Sc} (hv : Valid ss) {q : Nat × Nat × It} (hq : q ∈ placed 0 ss) {p : Int × Int} (hp : p ∈ meanIt ss q) : ∃ y, itemAtP ss p.1 p.2 = some y ∧ y.kind = 1 ∧ y.name = q.2.2.name := by
  rcases kind_cases hv hq with h | h
  · have e : meanIt ss q = [((q.1 : Int), (q.2.1 : Int))] := by
      unfold meanIt
      rw [if_neg (by omega), if_neg (by omega)]
    rw [e] at hp
    rw [List.mem_singleton.1 hp]
    exact ⟨q.2.2, placed_item hq, h, rfl⟩
  · exact mean_declM h hp
theorem mean_place {ss : List Sc} (hv : Valid ss) {p : Int × Int} {y : It} (h : itemAtP ss p.1 p.2 = some y) : (Lit.int .i64 p.1).wf = true ∧ (Lit.int .i64 p.2).wf = true := by
  obtain ⟨i, j, h1, h2, hq⟩ := item_placed h
  have hlt := hv.small.lt hq
  dsimp only at hlt
  rw [h1, h2]
  exact ⟨wf_small hlt.1, wf_small hlt.2⟩
/-- An item that is there, as ItemAt hands it back. -/
theorem itemAt_here {ss : List Sc} (hF : Fair ss) (hv : Valid ss) {oa : Option Addr} {cap : Nat} {a b : Int} {x : It} (hx : itemAtP ss a b = some x) (w : World) (hc : HoldsScopes w oa ss) (hE : TreeErrs w) :
    Calls Tryd.prog 21 #[.agg #[.slice oa ss.length cap], .agg #[.int .i64 a, .int .i64 b]] w fun e w' => e = .returned (.tuple #[.agg #[.int .i64 x.kind, .string x.name, .int .i64 x.scope], .bool true]) ∧ Below w.heap.size w w' := by
  obtain ⟨h1, h2⟩ := mean_place hv (p := (a, b)) hx
  refine (implItemAt_any ss hF oa cap a b h1 h2 w hc hE).mono ?_
  rintro e w' ⟨y, ok, rfl, ⟨_, h3, rfl⟩ | ⟨hn, _, _⟩, hb⟩
  · rw [hx] at h3
    cases h3
    exact ⟨rfl, hb⟩
  · exact absurd ⟨hv, by rw [hx]; rfl⟩ hn
/-- What the states say. -/
theorem state_ref {ss : List Sc} {q : Nat × Nat × It} (h : q.2.2.kind ≠ 3) : (stateIt ss q == 1) = ((meanIt ss q).length == 1) := by
  unfold stateIt
  by_cases h0 : (meanIt ss q).length = 0
  · rw [if_pos h0, h0]; rfl
  · rw [if_neg h0]
    by_cases h1 : 1 < (meanIt ss q).length
    · rw [if_pos h1, show ((meanIt ss q).length == 1) = false from beq_eq_false_iff_ne.2 (by omega)]; rfl
    · rw [if_neg h1, if_neg (fun e => h e.1), show ((meanIt ss q).length == 1) = true from beq_iff_eq.2 (by omega)]; rfl
theorem state_imp {ss : List Sc} (hv : Valid ss) {i j : Nat} {x : It} (h : x.kind = 3) : (stateIt ss (i, j, x) == 1) = decide (0 ≤ targetP ss i x.name) := by
  have hm : meanIt ss (i, j, x) = meantP ss i x.name := by
    unfold meanIt
    rw [if_neg (by show ¬ x.kind = 2; omega), if_pos h]
  unfold stateIt
  rw [hm]
  by_cases h0 : (meantP ss i x.name).length = 0
  · rw [if_pos h0, targetP_not (by omega)]; rfl
  · rw [if_neg h0]
    by_cases h1 : 1 < (meantP ss i x.name).length
    · rw [if_pos h1, targetP_not (by omega)]; rfl
    · rw [if_neg h1]
      obtain ⟨p, hp⟩ := List.length_eq_one_iff.1 (show (meantP ss i x.name).length = 1 by omega)
      have ha : aloneP ss (meantP ss i x.name) = targetP ss i x.name := by rw [hp, targetP_one hp]; rfl
      rw [ha]
      rcases target_ok hv i x.name with ht | ⟨m, ht, _⟩
      · rw [if_pos ⟨h, ht⟩, ht]; rfl
      · rw [if_neg (by rw [ht]; omega), ht]
        simp
theorem state_two {ss : List Sc} {q : Nat × Nat × It} : (stateIt ss q == 2) = ((meanIt ss q).length == 0) := by
  unfold stateIt
  by_cases h0 : (meanIt ss q).length = 0
  · rw [if_pos h0, h0]; rfl
  · rw [if_neg h0, show ((meanIt ss q).length == 0) = false from beq_eq_false_iff_ne.2 h0]
    by_cases h1 : 1 < (meanIt ss q).length
    · rw [if_pos h1]; rfl
    · rw [if_neg h1]
      split <;> rfl
theorem list_selfR (ps : List (Int × Int)) (oa ob : Option Addr) (ca cb : Nat) (w : World) (hn : ps.length ≤ 1000000) (ha : ArgPlaces w oa ps) (hb : ArgPlaces w ob ps) :
    Calls Tryd.prog 17 #[.slice oa ps.length ca, .slice ob ps.length cb] w fun e w' => e = .returned (.bool true) ∧ Below w.heap.size w w' :=
  (sgPlaces_any ps ps oa ob ca cb w hn hn ha hb).mono (by rintro e w' ⟨t, rfl, ht, hb⟩; exact ⟨by rw [ht.2 rfl], hb⟩)
theorem WordsAt.belowR {w w' : World} (h : WordsAt w) (hs : 8 ≤ w.heap.size) (hb : Below w.heap.size w w') : WordsAt w' :=
  have hg : 0 < w.heap.size := Nat.lt_of_lt_of_le (by decide) hs
  have hc := fun k => hb.cell (p := ⟨0, k, none⟩) hg
  ⟨(hc 0).trans h.1, (hc 1).trans h.2, (hc 2).trans h.3, (hc 3).trans h.4, (hc 4).trans h.5⟩
set_option maxRecDepth 100000 in
set_option maxHeartbeats 16000000 in
theorem lawResolve {w : World} {oa ob : Option Addr} {len cap len2 cap2 : Nat} (h : HoldsBytes w oa len) (hlc : len ≤ cap) (h2 : HoldsBytes w ob len2) (hlc2 : len2 ≤ cap2) (hE : NameErrs w) (hW : WordsAt w) (hS : 8 ≤ w.heap.size) :
    Calls Tryd.prog 3 #[.slice oa len cap, .slice ob len2 cap2] w fun e w' => e = .returned (.bool true) ∧ Below w.heap.size w w' := by
  by_cases hn : (1048576 : Int) < (len : Int)
  · clear h hE h2 hW
    go_enter Tryd.func3, Tryd.ntmps3
    go_wp2
    go_ret
    exact ⟨rfl, Below.refl _ _⟩
  by_cases hn2 : (1048576 : Int) < (len2 : Int)
  · clear h hE h2 hW
    go_enter Tryd.func3, Tryd.ntmps3
    go_wp2
    go_ret
    exact ⟨rfl, Below.refl _ _⟩
  have C := Lib.hid (drawResolve_any h (by omega) hlc)
  have HE := Lib.hid hE
  have H2 := Lib.hid (And.intro h2 (And.intro hlc2 (show len2 ≤ 2 ^ 62 by omega)))
  have HWS := Lib.hid (And.intro hW hS)
  clear h hE hlc h2 hlc2 hW hS
  go_enter Tryd.func3, Tryd.ntmps3
  go_wp2_with fail
  refine C.out.mono ?_
  rintro e w1 ⟨ss, ov, cv, a, b, rfl, hh, hl, ha, hb, hb1⟩
  have HF := Lib.hid (hl.fair (by omega))
  have HWF : Hid ((Lit.int .i64 a).wf = true ∧ (Lit.int .i64 b).wf = true) := Lib.hid ⟨WalkArith.wf_i64 (by unfold I64 at ha; omega), WalkArith.wf_i64 (by unfold I64 at hb; omega)⟩
  have hbA := ((Below.refl w1.heap.size w1).alloc (Nat.le_refl _) (.cells #[.slice ov ss.length cv] 25)).alloc (by simp) (.cells #[.int .i64 a, .int .i64 b] 27)
  have HA := Lib.hid (belowS hb1 hbA)
  have HC := Lib.hid (hh.below hbA (Nat.le_refl _))
  have RB := Lib.hid ((Row.new w1 [.slice ov ss.length cv] 25).alloc (.cells #[.int .i64 a, .int .i64 b] 27))
  have RP := Row.new (w1.alloc (.cells #[.slice ov ss.length cv] 25)) [.int .i64 a, .int .i64 b] 27
  rw [World.size_alloc] at RP
  have RP := Lib.hid RP
  have HEA := Lib.hid (HE.out.at HA.out)
  clear hh hl hb1 hbA ha hb
  go_wp2_with fail
  refine (implResolveItem_any ss HF.out ov cv a b HWF.out.1 HWF.out.2 _ HC.out HEA.out.nodes.trees).mono ?_
  intro e w2 hgot
  obtain ⟨o1, c1, xs, ok, rfl, hv1, ha1, -, hb2⟩ := hgot.val
  generalize (w1.alloc (.cells #[.slice ov ss.length cv] 25)).alloc (.cells #[.int .i64 a, .int .i64 b] 27) = wA at *
  have V1 := Lib.hid hv1
  have A1 := Lib.hid ha1
  have X2 := Lib.hid hb2
  have r2 := (RB.out.below X2.out RB.out.lt).cell (i := 0) (v := .slice ov ss.length cv) (by rfl)
  have p20 := (RP.out.below X2.out RP.out.lt).cell (i := 0) (v := .int .i64 a) (by rfl)
  have p21 := (RP.out.below X2.out RP.out.lt).cell (i := 1) (v := .int .i64 b) (by rfl)
  clear hgot hv1 ha1 hb2
  go_wp2_with fail
  refine (specResolveItem_any ss HF.out.fits ov cv a b _ (HC.out.below X2.out (Nat.le_refl _))).mono ?_
  intro e w3 hgot
  obtain ⟨o2, c2, ys, ok', rfl, hv2, ha2, hb3⟩ := hgot.val
  obtain ⟨rfl, rfl⟩ := hv2.same V1.out
  have A2 := Lib.hid ha2
  have A1a := Lib.hid (A1.out.below hb3)
  have X3 := Lib.hid (belowS X2.out hb3)
  have r3 := (RB.out.below X3.out RB.out.lt).cell (i := 0) (v := .slice ov ss.length cv) (by rfl)
  have p30 := (RP.out.below X3.out RP.out.lt).cell (i := 0) (v := .int .i64 a) (by rfl)
  have p31 := (RP.out.below X3.out RP.out.lt).cell (i := 1) (v := .int .i64 b) (by rfl)
  clear hgot hv2 ha2 hb3 r2 p20 p21
  go_wp2_with fail
  refine (implStateOf_any ss HF.out ov cv a b HWF.out.1 HWF.out.2 _ (HC.out.below X3.out (Nat.le_refl _)) (HEA.out.nodes.trees.at X3.out)).mono ?_
  rintro e w4 ⟨z, rfl, hz, hb4⟩
  have Z4 := Lib.hid hz
  have A1b := Lib.hid (A1a.out.below hb4)
  have A2b := Lib.hid (A2.out.below hb4)
  have X4 := Lib.hid (belowS X3.out hb4)
  have W4 := Lib.hid (belowS HA.out X4.out)
  clear hz hb4 r3 p30 p31
  go_wp2_with fail
  refine (drawState_any (H2.out.1.below W4.out) H2.out.2.2 H2.out.2.1).mono ?_
  rintro e w5 ⟨n5, rfl, -, hb5⟩
  have A1c := Lib.hid (A1b.out.below hb5)
  have A2c := Lib.hid (A2b.out.below hb5)
  have X5 := Lib.hid (belowS X4.out hb5)
  have hyl : ys.length ≤ 1000000 := by
    rcases V1.out with ⟨_, rfl, _⟩ | ⟨hok, rfl, _⟩
    · simp
    · have := meanAt_short hok; omega
  have hoo : (ok' == ok') = true := by simp
  have hon : (ok' != ok') = false := by simp
  have hzz : (z == z) = true := by simp
  have hzn : (z != z) = false := by simp
  clear hb5
  go_wp2_with fail
  refine (list_selfR ys o1 o2 c1 c2 _ hyl A1c.out A2c.out).mono ?_
  rintro e w6 ⟨rfl, hb6⟩
  have A1d := Lib.hid (A1c.out.below hb6)
  have A2d := Lib.hid (A2c.out.below hb6)
  have X6 := Lib.hid (belowS X5.out hb6)
  have r6 := (RB.out.below X6.out RB.out.lt).cell (i := 0) (v := .slice ov ss.length cv) (by rfl)
  have p60 := (RP.out.below X6.out RP.out.lt).cell (i := 0) (v := .int .i64 a) (by rfl)
  have p61 := (RP.out.below X6.out RP.out.lt).cell (i := 1) (v := .int .i64 b) (by rfl)
  clear hb6
  go_wp2_with fail
  refine (specStateOf_any ss HF.out.fits ov cv a b _ (HC.out.below X6.out (Nat.le_refl _))).mono ?_
  rintro e w7 ⟨z', rfl, hz', hb7⟩
  obtain rfl := (hz'.same Z4.out).symm
  have A1e := Lib.hid (A1d.out.below hb7)
  have A2e := Lib.hid (A2d.out.below hb7)
  have X7 := Lib.hid (belowS X6.out hb7)
  have HW7 := Lib.hid (WordsAt.belowR HWS.out.1 HWS.out.2 (belowS HA.out X7.out))
  have hww : ((wordP n5).toList == (wordP n5).toList) = true := by simp
  have hwn : ((wordP n5).toList != (wordP n5).toList) = false := by simp
  clear hz' hb7 r6 p60 p61
  go_wp2_with fail
  refine (implName_any n5 _ HW7.out).mono ?_
  rintro e w8 ⟨rfl, rfl⟩
  go_wp2_with fail
  refine (specName_any n5 _).mono ?_
  rintro e w9 ⟨rfl, rfl⟩
  cases ok'
  · go_wp2_with fail
    refine (list_selfR ys o1 o2 c1 c2 _ hyl A1e.out A2e.out).mono ?_
    rintro e w10 ⟨rfl, hb10⟩
    have X10 := Lib.hid (belowS X7.out hb10)
    have r10 := (RB.out.below X10.out RB.out.lt).cell (i := 0) (v := .slice ov ss.length cv) (by rfl)
    have p100 := (RP.out.below X10.out RP.out.lt).cell (i := 0) (v := .int .i64 a) (by rfl)
    have p101 := (RP.out.below X10.out RP.out.lt).cell (i := 1) (v := .int .i64 b) (by rfl)
    clear hb10
    go_wp2_with fail
    refine (specStateOf_any ss HF.out.fits ov cv a b _ (HC.out.below X10.out (Nat.le_refl _))).mono ?_
    rintro e w11 ⟨z', rfl, hz', hb11⟩
    obtain rfl := (hz'.same Z4.out).symm
    have X11 := Lib.hid (belowS X10.out hb11)
    have HW11 := Lib.hid (WordsAt.belowR HWS.out.1 HWS.out.2 (belowS HA.out X11.out))
    clear hz' hb11 r10 p100 p101
    go_wp2_with fail
    refine (implName_any n5 _ HW11.out).mono ?_
    rintro e w12 ⟨rfl, rfl⟩
    go_wp2_with fail
    refine (specName_any n5 _).mono ?_
    rintro e w13 ⟨rfl, rfl⟩
    go_wp2
    go_ret
    exact ⟨rfl, belowS HA.out X11.out⟩
  · obtain ⟨hok, hys⟩ : itemHas ss a b ∧ ys = meanAt ss a b := by
      rcases V1.out with ⟨_, _, h3⟩ | ⟨h1, h2, _⟩
      · cases h3
      · exact ⟨h1, h2⟩
    obtain ⟨hv, hsome⟩ := hok
    obtain ⟨x, hx⟩ := Option.isSome_iff_exists.1 hsome
    obtain ⟨i, j, rfl, rfl, hq⟩ := item_placed hx
    rw [meanAt_of hq] at hys
    obtain rfl : z = stateIt ss (i, j, x) := Z4.out.same (.inl ⟨hv, i, j, x, rfl, rfl, hq, rfl⟩)
    have HV := Lib.hid hv
    have HX := Lib.hid (And.intro hx hq)
    have hil : i < 6 := by have h1 := (List.getElem?_eq_some_iff.1 (placed_at hq).choose_spec.1).1; have := hv.count.2; omega
    have HNM : Hid (∀ p ∈ ys, ∃ y, itemAtP ss p.1 p.2 = some y ∧ y.kind = 1 ∧ y.name = x.name) := Lib.hid (fun p hp => mean_named hv hq (by rw [← hys]; exact hp))
    have HL25 : Hid (ys.length ≤ 25) := Lib.hid (by rw [hys]; exact meanIt_length hv _)
    have HYS := Lib.hid hys
    have r7 := (RB.out.below X7.out RB.out.lt).cell (i := 0) (v := .slice ov ss.length cv) (by rfl)
    have p70 := (RP.out.below X7.out RP.out.lt).cell (i := 0) (v := .int .i64 (i : Int)) (by rfl)
    have p71 := (RP.out.below X7.out RP.out.lt).cell (i := 1) (v := .int .i64 (j : Int)) (by rfl)
    clear hv hsome hx hq hys V1 Z4
    go_wp2_with fail
    refine (itemAt_here HF.out HV.out HX.out.1 _ (HC.out.below X7.out (Nat.le_refl _)) (HEA.out.nodes.trees.at X7.out)).mono ?_
    rintro e w8 ⟨rfl, hb8⟩
    have hbI := hb8.trans (((Below.refl w8.heap.size w8).alloc (Nat.le_refl _) (.cells #[.int .i64 x.kind, .string x.name, .int .i64 x.scope] 38)).mono hb8.size)
    have RX := Lib.hid (Row.new w8 [.int .i64 x.kind, .string x.name, .int .i64 x.scope] 38)
    have X8 := Lib.hid (belowS X7.out hbI)
    have A1f := Lib.hid (A1e.out.below hbI)
    clear hb8 hbI r7 p70 p71
    go_wp2
    generalize w8.alloc (.cells #[.int .i64 x.kind, .string x.name, .int .i64 x.scope] 38) = w9 at *
    go_loopw [108] (fun i wr => ∃ k : Nat, i = .int .i64 k ∧ k ≤ ys.length ∧ Hid (Below w9.heap.size w9 wr)) (fun i _ => ys.length - (intOf i).toNat)
    case atStart => exact ⟨0, rfl, Nat.zero_le _, Lib.hid (Below.refl _ _)⟩
    case round =>
      obtain ⟨k, rfl, hk, HW⟩ := hrel
      have XR := Lib.hid (belowS X8.out HW.out)
      have hyl25 := HL25.out
      by_cases hlt : k < ys.length
      · obtain ⟨⟨c, d⟩, hp⟩ : ∃ p, ys[k]? = some p := ⟨_, List.getElem?_eq_getElem hlt⟩
        obtain ⟨⟨yk, yn, ysc⟩, hy, hyk, hyn⟩ := HNM.out (c, d) (List.mem_of_getElem? hp)
        dsimp only at hy hyk hyn
        subst hyk
        subst hyn
        obtain ⟨b2, f2, rfl, hb2, q1⟩ := (A1f.out.below HW.out).at (by omega)
        obtain ⟨y0, y1⟩ := q1 k _ hp
        dsimp only at y0 y1
        have hbP := (Below.refl wr.heap.size wr).alloc (Nat.le_refl _) (.cells #[.int .i64 c, .int .i64 d] 27)
        have XP := Lib.hid (belowS XR.out hbP)
        have HWP := Lib.hid (HW.out.trans (hbP.mono HW.out.size))
        have rr := (RB.out.below XP.out RB.out.lt).cell (i := 0) (v := .slice ov ss.length cv) (by rfl)
        have RQ := Row.new wr [.int .i64 c, .int .i64 d] 27
        have q0 := RQ.cell (i := 0) (v := .int .i64 c) (by rfl)
        have q1' := RQ.cell (i := 1) (v := .int .i64 d) (by rfl)
        have HY := Lib.hid hy
        have hk0 : (0 : Int) ≤ (k : Int) := by omega
        have hk1 : (k : Int) < (ys.length : Int) := by omega
        clear hb2 hbP RQ hp q1 hy
        go_wp2_with fail
        refine (itemAt_here HF.out HV.out HY.out _ (HC.out.below XP.out (Nat.le_refl _)) (HEA.out.nodes.trees.at XP.out)).mono ?_
        rintro e w10 ⟨rfl, hb10⟩
        have hbJ := hb10.trans (((Below.refl w10.heap.size w10).alloc (Nat.le_refl _) (.cells #[.int .i64 1, .string x.name, .int .i64 ysc] 38)).mono hb10.size)
        have HWJ := Lib.hid (HWP.out.trans (hbJ.mono HWP.out.size))
        have RJ := Row.new w10 [.int .i64 1, .string x.name, .int .i64 ysc] 38
        have j0 := RJ.cell (i := 0) (v := .int .i64 1) (by rfl)
        have j1 := RJ.cell (i := 1) (v := .string x.name) (by rfl)
        have x1 := (RX.out.below HWJ.out RX.out.lt).cell (i := 1) (v := .string x.name) (by rfl)
        have hnn : (x.name.toList != x.name.toList) = false := by simp
        have hne : (x.name.toList == x.name.toList) = true := by simp
        clear hb10 hbJ RJ rr q0 q1' y0 y1
        go_wp2
        go_roundw
        case rel => exact ⟨k + 1, by go_num, by omega, HWJ⟩
        case measure => simp only [intOf]; omega
      · obtain rfl : k = ys.length := by omega
        have x0 := (RX.out.below HW.out RX.out.lt).cell (i := 0) (v := .int .i64 x.kind) (by rfl)
        have x1 := (RX.out.below HW.out RX.out.lt).cell (i := 1) (v := .string x.name) (by rfl)
        have rr := (RB.out.below XR.out RB.out.lt).cell (i := 0) (v := .slice ov ss.length cv) (by rfl)
        have pr0 := (RP.out.below XR.out RP.out.lt).cell (i := 0) (v := .int .i64 (i : Int)) (by rfl)
        have pr1 := (RP.out.below XR.out RP.out.lt).cell (i := 1) (v := .int .i64 (j : Int)) (by rfl)
        have AR := Lib.hid (A1f.out.below HW.out)
        rcases kind_cases HV.out HX.out.2 with hk1 | hk2 | hk3
        · have hk1 : x.kind = 1 := hk1
          have hkk : (x.kind == 1) = true := by simpa using hk1
          have hm : meanIt ss (i, j, x) = [((i : Int), (j : Int))] := by
            unfold meanIt
            rw [if_neg (by show ¬ x.kind = 2; omega), if_neg (by show ¬ x.kind = 3; omega)]
          have hst : (stateIt ss (i, j, x) == 1) = true := by rw [state_ref (by show x.kind ≠ 3; omega), hm]; rfl
          have hy1 : ys = [((i : Int), (j : Int))] := by rw [HYS.out, hm]
          subst hy1
          obtain ⟨b2, f2, rfl, hb2, q1⟩ := AR.out.at (by simp)
          obtain ⟨y0, y1⟩ := q1 0 _ rfl
          dsimp only at y0 y1
          have e1 : ((i : Int) == (i : Int)) = true := by simp
          have e2 : ((j : Int) == (j : Int)) = true := by simp
          clear hb2 q1 hm hk1
          simp only [Nat.zero_mul, Nat.add_zero] at y0 y1
          go_wp2
          go_quiet (fail)
          go_wp2
          go_ret
          exact ⟨rfl, below_drewN (belowS HA.out XR.out) _⟩
        · have hk2 : x.kind = 2 := hk2
          have hkk : (x.kind == 1) = false := by rw [hk2]; rfl
          have hkk2 : (x.kind == 2) = true := by rw [hk2]; rfl
          have hst := state_ref (ss := ss) (q := (i, j, x)) (by show x.kind ≠ 3; omega)
          rw [← HYS.out] at hst
          have hm : (lookP ss i x.name).places = ys := by
            rw [HYS.out]
            unfold meanIt
            rw [if_pos hk2]
          have HM := Lib.hid hm
          clear hm hk2
          go_wp2_with fail
          refine (implLookUp_any ss HF.out ov cv (i : Int) x.name _ (HC.out.below XR.out (Nat.le_refl _)) (HEA.out.at XR.out)).mono ?_
          intro e w10 hgot
          obtain ⟨o3, c3, zs, okL, rfl, hv3, ha3, -, hb10⟩ := hgot.val
          obtain ⟨hzs, rfl⟩ : zs = ys ∧ okL = true := by
            rcases hv3 with ⟨h1, _⟩ | ⟨_, h2, h3⟩
            · refine absurd ?_ h1
              have hl := (List.getElem?_eq_some_iff.1 (placed_at HX.out.2).choose_spec.1).1
              exact ⟨⟨HV.out, by omega, by dsimp only at hl; omega⟩, name_ofPlaced HV.out HX.out.2⟩
            · rw [Int.toNat_natCast, HM.out] at h2
              exact ⟨h2, h3⟩
          subst hzs
          have A10 := Lib.hid (AR.out.below hb10)
          have A3 := Lib.hid ha3
          have X10 := Lib.hid (belowS XR.out hb10)
          clear hgot hv3 ha3 hb10 rr pr0 pr1 x0 x1
          go_wp2_with fail
          refine (list_selfR zs o3 o1 c3 c1 _ hyl A3.out A10.out).mono ?_
          rintro e w11 ⟨rfl, hb11⟩
          have X11 := Lib.hid (belowS X10.out hb11)
          have hlen : ((zs.length : Int) == 1) = (zs.length == 1) := by
            by_cases h : zs.length = 1
            · rw [h]; rfl
            · rw [show (zs.length == 1) = false from beq_eq_false_iff_ne.2 h]; exact beq_eq_false_iff_ne.2 (by omega)
          obtain ⟨bq, hbq⟩ : ∃ bq, (zs.length == 1) = bq := ⟨_, rfl⟩
          rw [hbq] at hlen hst
          clear hb11
          go_wp2
          go_ret
          exact ⟨by simp, belowS HA.out X11.out⟩
        · have hk3 : x.kind = 3 := hk3
          have hkk : (x.kind == 1) = false := by rw [hk3]; rfl
          have hkk2 : (x.kind == 2) = false := by rw [hk3]; rfl
          have hst := state_imp HV.out (i := i) (j := j) (x := x) hk3
          have hs2 := state_two (ss := ss) (q := (i, j, x))
          rw [← HYS.out] at hs2
          have hlen : ((ys.length : Int) == 0) = (ys.length == 0) := by
            by_cases h : ys.length = 0
            · rw [h]; rfl
            · rw [show (ys.length == 0) = false from beq_eq_false_iff_ne.2 h]; exact beq_eq_false_iff_ne.2 (by omega)
          have HK3 := Lib.hid hk3
          clear hk3
          go_wp2_with fail
          refine (implImportTarget_any ss HF.out ov cv (i : Int) (j : Int) HWF.out.1 HWF.out.2 _ (HC.out.below XR.out (Nat.le_refl _)) (HEA.out.nodes.trees.at XR.out)).mono ?_
          rintro e w10 ⟨t, rfl, ht, hb10⟩
          obtain rfl : t = targetP ss i x.name := by
            have h1 : TgtVal ss (i : Int) (j : Int) (targetP ss i x.name) := .inl ⟨HV.out, x, HX.out.1, HK3.out, by rw [Int.toNat_natCast]⟩
            exact TgtVal.same ht h1
          have X10 := Lib.hid (belowS XR.out hb10)
          have hge : decide (targetP ss i x.name ≥ 0) = decide (0 ≤ targetP ss i x.name) := rfl
          obtain ⟨bt, hbt⟩ : ∃ bt, decide (0 ≤ targetP ss i x.name) = bt := ⟨_, rfl⟩
          obtain ⟨bl, hbl⟩ : ∃ bl, (ys.length == 0) = bl := ⟨_, rfl⟩
          rw [hbt] at hst hge
          rw [hbl] at hs2 hlen
          clear hb10 ht rr pr0 pr1 x0 x1
          go_wp2
          go_ret
          exact ⟨by simp, belowS HA.out X10.out⟩
end Go.Proofs.YtimcobenmgbciaaDoor
