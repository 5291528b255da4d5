/-
  The walk of the law FnFindPath: at every two codes it returns true, and only new memory is written. Conditions: the codes' memory holds bytes; the package-level errors hold errors; the table of powers of ten is whole.
-/
import Derived.Test.YtjogfagjcpcihaaGreatDoorWDrawFpY
import Derived.Test.YtjogfagjcpcihaaGreatDoorFpPY
import Derived.Test.YtjogfagjcpcihaaGreatDoorWSpecFindY
import Derived.Test.YtjogfagjcpcihaaGreatDoorWTableOfY
import Derived.Test.YtjogfagjcpcihaaGreatDoorWImplPathY
import Derived.Test.YtjogfagjcpcihaaGreatDoorWImplLookY
import Derived.Test.YtjogfagjcpcihaaGreatDoorJBY
import Derived.Test.YtjogfagjcpcihaaGreatDoorWSameY
namespace Go.Proofs.YtjogfagjcpcihaaGreatDoor
open Go Go.RowKit Sg
theorem list_selfF (ps : List (Int × Int)) (oa ob : Option Addr) (ca cb : Nat) (w : World) (hn : ps.length ≤ 1000000) (ha : ArgPlaces w oa ps) (hb : ArgPlaces w ob ps) :
    Calls Tryz.prog 15 #[.slice oa ps.length ca, .slice ob ps.length cb] w fun e w' => e = .returned (.bool true) ∧ Below w.heap.size w w' :=
  (sgPlaces_any ps ps oa ob ca cb w hn hn ha hb).mono (by rintro e w' ⟨t, rfl, ht, hb⟩; exact ⟨by rw [ht.2 rfl], hb⟩)
theorem slice_front (p : ByteArray) (k : Nat) (hk : k ≤ p.size) (w : World) : (Instr.slice 9 (.string p) none (some (.int .i64 (k : Int))) none).run Tryz.prog w = .ok (.string (p.extract 0 k)) w := by
  simp [go_sem, hk]
theorem slice_back (p : ByteArray) (k : Nat) (hk : k ≤ p.size) (w : World) : (Instr.slice 9 (.string p) (some (.int .i64 (k : Int))) none none).run Tryz.prog w = .ok (.string (p.extract k p.size)) w := by
  simp [go_sem, hk]
theorem itemAt_hereF {ss : List Sc} (hF : Fair ss) (hv : Valid ss) {oa : Option Addr} {cap : Nat} {a b : Int} {x : It} (hx : itemAtP ss a b = some x) (w : World) (hc : HoldsScopes w oa ss) (hE : TreeErrs w) :
    Calls Tryz.prog 12 #[.agg #[.slice oa ss.length cap], .agg #[.int .i64 a, .int .i64 b]] w fun e w' => e = .returned (.tuple #[.agg #[.int .i64 x.kind, .string x.name, .int .i64 x.scope], .bool true]) ∧ Below w.heap.size w w' := by
  obtain ⟨i, j, h1, h2, hq⟩ := item_placed hx
  have hlt := hv.small.lt hq
  dsimp only at hlt
  refine (implItemAt_any ss hF oa cap a b (by rw [h1]; exact wf_small hlt.1) (by rw [h2]; exact wf_small hlt.2) w hc hE).mono ?_
  rintro e w' ⟨y, ok, rfl, ⟨_, h3, rfl⟩ | ⟨hn, _, _⟩, hb⟩
  · rw [hx] at h3
    cases h3
    exact ⟨rfl, hb⟩
  · exact absurd ⟨hv, by rw [hx]; rfl⟩ hn
theorem setCell_farK {W : World} {b g o : Nat} (h : b ≠ g) (u v z : Value) : (((W.setCell ⟨g, 0, none⟩ u).setCell ⟨g, 1, none⟩ v).setCell ⟨g, 2, none⟩ z).cell? ⟨b, o, none⟩ = W.cell? ⟨b, o, none⟩ := by
  rw [World.cell?_of_block (a := ⟨b, o, none⟩) (Below.heap_setCell _ _ _ _ h), World.cell?_of_block (a := ⟨b, o, none⟩) (Below.heap_setCell _ _ _ _ h), World.cell?_of_block (a := ⟨b, o, none⟩) (Below.heap_setCell _ _ _ _ h)]
theorem fp_short {ss : List Sc} {n : Int} {p : ByteArray} {xs : List (Int × Int)} {ok : Bool} (h : plVal (fpOk ss n p) (fpUp ss n.toNat p p.size) xs ok) : xs.length ≤ 25 := by
  rcases h with ⟨_, rfl, _⟩ | ⟨h1, rfl, _⟩
  · simp
  · exact (fpUp_ok h1.1.1 _ _ _).1
theorem tab_same {ss : List Sc} {S T : ByteArray} (h : (Valid ss ∧ S.data.toList = tableT ss) ∨ (¬ Valid ss ∧ S.data.toList = [])) (k : (Valid ss ∧ T.data.toList = tableT ss) ∨ (¬ Valid ss ∧ T.data.toList = [])) : S = T := by
  apply ByteArray.ext; apply Array.toList_inj.1
  rcases h with ⟨h1, h2⟩ | ⟨h1, h2⟩ <;> rcases k with ⟨k1, k2⟩ | ⟨k1, k2⟩
  · rw [h2, k2]
  · exact absurd h1 k1
  · exact absurd k1 h1
  · rw [h2, k2]
set_option maxRecDepth 100000 in
set_option maxHeartbeats 16000000 in
theorem lawFindPath {w : World} {oa ob : Option Addr} {len cap len2 cap2 : Nat} (h : HoldsBytes w oa len) (hlc : len ≤ cap) (h2 : HoldsBytes w ob len2) (hlc2 : len2 ≤ cap2) (hE : NameErrs w) (hg : TabGlobs w) :
    Calls Tryz.prog 4 #[.slice oa len cap, .slice ob len2 cap2] w fun e w' => e = .returned (.bool true) ∧ Below w.heap.size w w' := by
  by_cases hn : (1048576 : Int) < (len : Int)
  · clear h hE h2 hg
    go_enter Tryz.func4, Tryz.ntmps4
    go_wp2
    go_ret
    exact ⟨rfl, Below.refl _ _⟩
  by_cases hn2 : (1048576 : Int) < (len2 : Int)
  · clear h hE h2 hg
    go_enter Tryz.func4, Tryz.ntmps4
    go_wp2
    go_ret
    exact ⟨rfl, Below.refl _ _⟩
  have C := Lib.hid (drawFind_any h (by omega) hlc)
  have HE := Lib.hid hE
  have H2 := Lib.hid (And.intro h2 (And.intro hlc2 (show len2 ≤ 2 ^ 62 by omega)))
  have HGL := Lib.hid hg
  clear h hE hlc h2 hlc2 hg
  go_enter Tryz.func4, Tryz.ntmps4
  go_wp2_with fail
  refine C.out.mono ?_
  rintro e w1 ⟨ss, ov, cv, s, P, rfl, hh, hl, hsI, hP, hb1⟩
  have HF := Lib.hid (hl.fair (by omega))
  have hPS : P.size ≤ 20 := hP
  have HPS : Hid (P.size ≤ 1048576) := Lib.hid (by omega)
  have hbA := (Below.refl w1.heap.size w1).alloc (Nat.le_refl _) (.cells #[.slice ov ss.length cv] 33)
  have HA := Lib.hid (belowS hb1 hbA)
  have HC := Lib.hid (hh.below hbA (Nat.le_refl _))
  have RB := Lib.hid (Row.new w1 [.slice ov ss.length cv] 33)
  have HEA := Lib.hid (HE.out.at HA.out)
  have r1 := RB.out.cell (i := 0) (v := .slice ov ss.length cv) (by rfl)
  clear hh hl hb1 hbA hsI r1 hP
  go_wp2_with fail
  refine (implFindPath_any ss HF.out ov cv s P HPS.out _ HC.out HEA.out).mono ?_
  intro e w2 hgot
  obtain ⟨o1, c1, xs, ok, rfl, hv1, ha1, -, hb2⟩ := hgot.val
  generalize w1.alloc (.cells #[.slice ov ss.length cv] 33) = wA at *
  have V1 := Lib.hid hv1
  have A1 := Lib.hid ha1
  have X2 := Lib.hid hb2
  have r2 := (RB.out.below X2.out RB.out.lt).cell (i := 0) (v := .slice ov ss.length cv) (by rfl)
  clear hgot hv1 ha1 hb2
  go_wp2_with fail
  refine (specFindPath_any ss HF.out.fits ov cv s P HPS.out _ (HC.out.below X2.out (Nat.le_refl _))).mono ?_
  intro e w3 hgot
  obtain ⟨o2, c2, ys, ok', rfl, hv2, ha2, hb3⟩ := hgot.val
  obtain ⟨rfl, rfl⟩ := hv2.same V1.out
  have A2 := Lib.hid ha2
  have A1a := Lib.hid (A1.out.below hb3)
  have X3 := Lib.hid (belowS X2.out hb3)
  have W3 := Lib.hid (belowS HA.out X3.out)
  clear hgot hv2 ha2 hb3 r2
  go_wp2_with fail
  refine (drawQualified_any (H2.out.1.below W3.out) H2.out.2.2 H2.out.2.1).mono ?_
  rintro e w4 ⟨tt, ov2, cv2, a, b, rfl, hh2, hl2, ha, hb, hb4⟩
  have HF2 := Lib.hid (hl2.fair (by omega))
  have HWF : Hid ((Lit.int .i64 a).wf = true ∧ (Lit.int .i64 b).wf = true) := Lib.hid ⟨WalkArith.wf_i64 (by unfold I64 at ha; omega), WalkArith.wf_i64 (by unfold I64 at hb; omega)⟩
  have hbB := ((Below.refl w4.heap.size w4).alloc (Nat.le_refl _) (.cells #[.slice ov2 tt.length cv2] 33)).alloc (by simp) (.cells #[.int .i64 a, .int .i64 b] 26)
  have XB := belowS X3.out (belowS hb4 hbB)
  have HB := Lib.hid (belowS HA.out XB)
  have HC1 := Lib.hid (HC.out.below XB (Nat.le_refl _))
  have HC2 := Lib.hid (hh2.below hbB (Nat.le_refl _))
  have RB1 := Lib.hid (RB.out.below XB RB.out.lt)
  have RV := Lib.hid ((Row.new w4 [.slice ov2 tt.length cv2] 33).alloc (.cells #[.int .i64 a, .int .i64 b] 26))
  have RP := Row.new (w4.alloc (.cells #[.slice ov2 tt.length cv2] 33)) [.int .i64 a, .int .i64 b] 26
  rw [World.size_alloc] at RP
  have RP := Lib.hid RP
  have A1b := Lib.hid (A1a.out.below (belowS hb4 hbB))
  have A2b := Lib.hid (A2.out.below (belowS hb4 hbB))
  have HEB := Lib.hid (HEA.out.at XB)
  have HGB := Lib.hid (HGL.out.below HB.out HGL.out.size)
  have v1 := RV.out.cell (i := 0) (v := .slice ov2 tt.length cv2) (by rfl)
  have p10 := RP.out.cell (i := 0) (v := .int .i64 a) (by rfl)
  have p11 := RP.out.cell (i := 1) (v := .int .i64 b) (by rfl)
  have hyl : ys.length ≤ 25 := fp_short V1.out
  clear hh2 hl2 ha hb hb4 hbB XB v1 p10 p11
  go_wp2_with fail
  refine (implQualified_any tt HF2.out ov2 cv2 a b HWF.out.1 HWF.out.2 _ HC2.out HEB.out.nodes).mono ?_
  rintro e w5 ⟨Q1, fine, rfl, hQ, hb5⟩
  generalize (w4.alloc (.cells #[.slice ov2 tt.length cv2] 33)).alloc (.cells #[.int .i64 a, .int .i64 b] 26) = wB at *
  have HQ := Lib.hid hQ
  have X5 := Lib.hid hb5
  have v5 := (RV.out.below X5.out RV.out.lt).cell (i := 0) (v := .slice ov2 tt.length cv2) (by rfl)
  have p50 := (RP.out.below X5.out RP.out.lt).cell (i := 0) (v := .int .i64 a) (by rfl)
  have p51 := (RP.out.below X5.out RP.out.lt).cell (i := 1) (v := .int .i64 b) (by rfl)
  clear hQ hb5
  go_wp2_with fail
  refine (specQualified_any tt HF2.out.fits ov2 cv2 a b _ (HC2.out.below X5.out (Nat.le_refl _))).mono ?_
  rintro e w6 ⟨Q2, fine2, rfl, hQ2, hb6⟩
  obtain ⟨rfl, rfl⟩ := hQ2.same HQ.out
  have X6 := Lib.hid (belowS X5.out hb6)
  have hoo : (ok' != ok') = false := by simp
  have hqq : (Q2.toList != Q2.toList) = false := by simp
  have hff : (fine2 != fine2) = false := by simp
  clear hQ2 hb6 v5 p50 p51
  go_upto_region 9 with (fail)
  refine wp_region_kept (S := fun w' => w'.cell? ⟨w4.heap.size, 0, none⟩ = some (.slice ov2 tt.length cv2)) 99 (by kernel_rfl) ?_
  have hS0 := cell_drew ((RV.out.below X6.out RV.out.lt).cell (i := 0) (v := .slice ov2 tt.length cv2) (by rfl))
  have HD := Lib.hid (belowS X6.out ((Below.refl w6.heap.size w6).drew))
  refine KeptAny.take (i := 0) (v := ?_) (by kernel_rfl) rfl rfl (by kernel_rfl) (by kernel_rfl) (by kernel_rfl) (fun _ _ _ h => h) (by kernel_rfl) (fun w' hw' => ?_) (fun _ => rfl) hS0 ?_
  rotate_left
  · (go_simp; try with_reducible rfl)
  refine KeptAny.take (i := 1) (v := ?_) (by kernel_rfl) rfl rfl (by kernel_rfl) (by kernel_rfl) (by kernel_rfl) (fun _ _ _ h => h) (by kernel_rfl) (fun w' hw' => ?_) (fun _ => rfl) hS0 ?_
  rotate_left
  · (go_simp; try with_reducible rfl)
  refine KeptAny.one (i := 2) (by kernel_rfl) rfl (by kernel_rfl) (fun K hK => ?_)
  go_simp
  refine ⟨trivial, ?_⟩
  refine ((callsIn_wide (n := 5)).2 (list_selfF ys o1 o2 c1 c2 _ (by omega) (A1b.out.below HD.out) (A2b.out.below HD.out))).mono ?_
  rintro e wx ⟨rfl, hbx⟩
  have HD := Lib.hid (belowS HD.out hbx)
  have hS0 := cell_grow hbx hS0
  clear hbx
  refine hK.out _ _ hS0 (fun _ => ?_)
  clear hK
  refine KeptAny.take (i := 3) (v := ?_) (by kernel_rfl) rfl rfl (by kernel_rfl) (by kernel_rfl) (by kernel_rfl) (fun _ _ _ h => h) (by kernel_rfl) (fun w' hw' => ?_) (fun _ => rfl) hS0 ?_
  rotate_left
  · (go_simp; try with_reducible rfl)
  refine KeptAny.take (i := 4) (v := ?_) (by kernel_rfl) rfl rfl (by kernel_rfl) (by kernel_rfl) (by kernel_rfl) (fun _ _ _ h => h) (by kernel_rfl) (fun w' hw' => ?_) (fun _ => rfl) hS0 ?_
  rotate_left
  · (go_simp; try with_reducible rfl)
  refine KeptAny.take (i := 5) (v := ?_) (by kernel_rfl) rfl rfl (by kernel_rfl) (by kernel_rfl) (by kernel_rfl) (fun _ _ _ h => h) (by kernel_rfl) (fun w' hw' => ?_) (fun _ => rfl) hS0 ?_
  rotate_left
  · (go_simp; try with_reducible rfl)
  refine KeptAny.take (i := 6) (v := ?_) (by kernel_rfl) rfl rfl (by kernel_rfl) (by kernel_rfl) (by kernel_rfl) (fun _ _ _ h => h) (by kernel_rfl) (fun w' hw' => ?_) (fun _ => rfl) hS0 ?_
  rotate_left
  · (go_simp; try with_reducible rfl)
  refine KeptAny.take (i := 7) (v := ?_) (by kernel_rfl) rfl rfl (by kernel_rfl) (by kernel_rfl) (by kernel_rfl) (fun _ _ _ h => h) (by kernel_rfl) (fun w' hw' => ?_) (fun _ => rfl) hS0 ?_
  rotate_left
  · (go_simp; try with_reducible rfl)
  refine KeptAny.take (i := 8) (v := ?_) (by kernel_rfl) rfl rfl (by kernel_rfl) (by kernel_rfl) (by kernel_rfl) (fun _ _ _ h => h) (by kernel_rfl) (fun w' hw' => ?_) (fun _ => rfl) hS0 ?_
  rotate_left
  · (go_simp; try with_reducible rfl)
  refine KeptAny.take (i := 9) (v := ?_) (by kernel_rfl) rfl rfl (by kernel_rfl) (by kernel_rfl) (by kernel_rfl) (fun _ _ _ h => h) (by kernel_rfl) (fun w' hw' => ?_) (fun _ => rfl) hS0 ?_
  rotate_left
  · (go_simp; try with_reducible rfl)
  refine KeptAny.take (i := 10) (v := ?_) (by kernel_rfl) rfl rfl (by kernel_rfl) (by kernel_rfl) (by kernel_rfl) (fun _ _ _ h => h) (by kernel_rfl) (fun w' hw' => ?_) (fun _ => rfl) hS0 ?_
  rotate_left
  · (go_simp; try with_reducible rfl)
  refine KeptAny.take (i := 11) (v := ?_) (by kernel_rfl) rfl rfl (by kernel_rfl) (by kernel_rfl) (by kernel_rfl) (fun _ _ _ h => h) (by kernel_rfl) (fun w' hw' => ?_) (fun _ => rfl) hS0 ?_
  rotate_left
  · (go_simp; try with_reducible rfl)
  refine KeptAny.take (i := 12) (v := ?_) (by kernel_rfl) rfl rfl (by kernel_rfl) (by kernel_rfl) (by kernel_rfl) (fun _ _ _ h => h) (by kernel_rfl) (fun w' hw' => ?_) (fun _ => rfl) hS0 ?_
  rotate_left
  · (go_simp; try with_reducible rfl)
  refine KeptAny.take (i := 13) (v := ?_) (by kernel_rfl) rfl rfl (by kernel_rfl) (by kernel_rfl) (by kernel_rfl) (fun _ _ _ h => h) (by kernel_rfl) (fun w' hw' => ?_) (fun _ => rfl) hS0 ?_
  rotate_left
  · (go_simp; try with_reducible rfl)
  refine KeptAny.take (i := 14) (v := ?_) (by kernel_rfl) rfl rfl (by kernel_rfl) (by kernel_rfl) (by kernel_rfl) (fun _ _ _ h => h) (by kernel_rfl) (fun w' hw' => ?_) (fun _ => rfl) hS0 ?_
  rotate_left
  · (go_simp; try with_reducible rfl)
  refine KeptAny.take (i := 15) (v := ?_) (by kernel_rfl) rfl rfl (by kernel_rfl) (by kernel_rfl) (by kernel_rfl) (fun _ _ _ h => h) (by kernel_rfl) (fun w' hw' => ?_) (fun _ => rfl) hS0 ?_
  rotate_left
  · (go_simp; try with_reducible rfl)
  refine KeptAny.take (i := 16) (v := ?_) (by kernel_rfl) rfl rfl (by kernel_rfl) (by kernel_rfl) (by kernel_rfl) (fun _ _ _ h => h) (by kernel_rfl) (fun w' hw' => ?_) (fun _ => rfl) hS0 ?_
  rotate_left
  · (go_simp; try with_reducible rfl)
  refine KeptAny.take (i := 17) (v := ?_) (by kernel_rfl) rfl rfl (by kernel_rfl) (by kernel_rfl) (by kernel_rfl) (fun _ _ _ h => h) (by kernel_rfl) (fun w' hw' => ?_) (fun _ => rfl) hS0 ?_
  rotate_left
  · (go_simp; try with_reducible rfl)
  refine KeptAny.take (i := 18) (v := ?_) (by kernel_rfl) rfl rfl (by kernel_rfl) (by kernel_rfl) (by kernel_rfl) (fun _ _ _ h => h) (by kernel_rfl) (fun w' hw' => ?_) (fun _ => rfl) hS0 ?_
  rotate_left
  · (go_simp; try with_reducible rfl)
  refine KeptAny.take (i := 19) (v := ?_) (by kernel_rfl) rfl rfl (by kernel_rfl) (by kernel_rfl) (by kernel_rfl) (fun _ _ _ h => h) (by kernel_rfl) (fun w' hw' => ?_) (fun _ => rfl) hS0 ?_
  rotate_left
  · (go_simp; try with_reducible rfl)
  refine KeptAny.take (i := 20) (v := ?_) (by kernel_rfl) rfl rfl (by kernel_rfl) (by kernel_rfl) (by kernel_rfl) (fun _ _ _ h => h) (by kernel_rfl) (fun w' hw' => ?_) (fun _ => rfl) hS0 ?_
  rotate_left
  · (go_simp; try with_reducible rfl)
  refine KeptAny.take (i := 22) (v := ?_) (by kernel_rfl) rfl rfl (by kernel_rfl) (by kernel_rfl) (by kernel_rfl) (fun _ _ _ h => h) (by kernel_rfl) (fun w' hw' => ?_) (fun _ => rfl) hS0 ?_
  rotate_left
  · (go_simp; try with_reducible rfl)
  refine KeptAny.one (i := 21) (by kernel_rfl) rfl (by kernel_rfl) (fun K hK => ?_)
  go_simp
  refine ⟨trivial, ?_⟩
  refine ((callsIn_wide (n := 5)).2 (implTable_any tt HF2.out ov2 cv2 _ (HC2.out.below HD.out (Nat.le_refl _)) (HEB.out.nodes.trees.at HD.out) (HGB.out.below HD.out HGB.out.size))).mono ?_
  rintro e wx ⟨T1, rfl, hT1, hbx⟩
  have HD := Lib.hid (belowS HD.out hbx)
  have hS0 := cell_grow hbx hS0
  clear hbx
  refine hK.out _ _ hS0 (fun _ => ?_)
  clear hK
  refine KeptAny.one (i := 23) (by kernel_rfl) rfl (by kernel_rfl) (fun K hK => ?_)
  go_simp
  refine ⟨trivial, ?_⟩
  refine ((callsIn_wide (n := 5)).2 (specTableOf_any tt HF2.out.fits ov2 cv2 _ (HC2.out.below HD.out (Nat.le_refl _)))).mono ?_
  rintro e wx ⟨T2, rfl, hT2, hbx⟩
  obtain rfl : T2 = T1 := tab_same hT2 hT1
  have htt : (T2.toList != T2.toList) = false := by simp
  clear hT1 hT2
  have HD := Lib.hid (belowS HD.out hbx)
  have hS0 := cell_grow hbx hS0
  clear hbx
  refine hK.out _ _ hS0 (fun _ => ?_)
  clear hK
  refine KeptAny.take (i := 24) (v := ?_) (by kernel_rfl) rfl rfl (by kernel_rfl) (by kernel_rfl) (by kernel_rfl) (fun _ _ _ h => h) (by kernel_rfl) (fun w' hw' => ?_) (fun _ => rfl) hS0 ?_
  rotate_left
  · (go_simp; try with_reducible rfl)
  refine KeptAny.take (i := 25) (v := ?_) (by kernel_rfl) rfl rfl (by kernel_rfl) (by kernel_rfl) (by kernel_rfl) (fun _ _ _ h => h) (by kernel_rfl) (fun w' hw' => ?_) (fun _ => rfl) hS0 ?_
  rotate_left
  · (go_simp; try with_reducible rfl)
  refine KeptAny.done (by kernel_rfl) ?_ _
  clear hS0
  cases fine2
  · cases ok'
    · have h0 : ys.length = 0 := by
        rcases V1.out with ⟨_, h2, _⟩ | ⟨_, _, h3⟩
        · rw [h2]; rfl
        · cases h3
      have h00 : ((ys.length : Int) == 0) = true := by rw [h0]; rfl
      have XE := Lib.hid (belowS HB.out HD.out)
      clear h0 hyl
      go_wp2
      go_ret
      exact ⟨rfl, XE.out⟩
    · obtain ⟨hok, hys⟩ : fpOk ss s P ∧ ys = fpUp ss s.toNat P P.size := by
        rcases V1.out with ⟨_, _, h3⟩ | ⟨h1, h2, _⟩
        · cases h3
        · exact ⟨h1, h2⟩
      have HOK := Lib.hid (And.intro hok hys)
      have hp0 : 0 < P.size := hok.2.1
      clear hok hys
      have r8 := (RB1.out.below HD.out RB1.out.lt).cell (i := 0) (v := .slice ov ss.length cv) (by rfl)
      by_cases h1 : P.size = 1
      · have h11 : ((P.size : Int) == 1) = true := by rw [h1]; rfl
        obtain ⟨hnb, hlk⟩ := fp_one HOK.out.1 h1
        have HLK := Lib.hid (And.intro hnb (HOK.out.2.trans hlk))
        clear h1 hnb hlk
        go_wp2_with fail
        refine (implLookUp_any ss HF.out ov cv s P _ (HC1.out.below HD.out (Nat.le_refl _)) (HEB.out.at HD.out)).mono ?_
        intro e w8 hgot
        obtain ⟨o3, c3, zs, ok3, rfl, hv3, ha3, -, hb8⟩ := hgot.val
        have hzy : zs = ys := by
          rcases hv3 with ⟨h1, _⟩ | ⟨_, h2, _⟩
          · exact absurd ⟨HOK.out.1.1, HLK.out.1⟩ h1
          · rw [h2, HLK.out.2]
        subst hzy
        have A3 := Lib.hid ha3
        have X8 := Lib.hid (belowS HD.out hb8)
        clear hgot hv3 ha3 hb8 r8
        go_wp2_with fail
        refine (list_selfF zs o3 o1 c3 c1 _ (by omega) A3.out (A1b.out.below X8.out)).mono ?_
        rintro e w9 ⟨rfl, hb9⟩
        have XE := Lib.hid (belowS HB.out (belowS X8.out hb9))
        clear hb9
        go_wp2
        go_ret
        exact ⟨rfl, XE.out⟩
      · have h11 : ((P.size : Int) == 1) = false := by rw [beq_eq_false_iff_ne]; omega
        obtain ⟨m, hm⟩ : ∃ m, P.size = m + 1 := ⟨P.size - 1, by omega⟩
        obtain ⟨hok2, hnb, hlast⟩ := fp_last HOK.out.1 (by omega)
        have hm1 : P.size - 1 = m := by omega
        rw [hm1] at hok2 hnb hlast
        have HL := Lib.hid (And.intro hok2 (And.intro hnb (HOK.out.2.trans hlast)))
        have hsub : IntKind.i64.wrap ((P.size : Int) - 1) = (m : Int) := by rw [IntWalk.i64_in _ (by omega)]; omega
        have hsl := fun W => slice_front P m (by omega) W
        have HSB : Hid (∀ W, (Instr.slice 9 (.string P) (some (.int .i64 (m : Int))) none none).run Tryz.prog W = .ok (.string (P.extract m P.size)) W) := Lib.hid (fun W => slice_back P m (by omega) W)
        have HPM : Hid ((P.extract 0 m).size ≤ 1048576) := Lib.hid (by rw [ByteArray.size_extract]; omega)
        have HM := Lib.hid hm
        clear hok2 hnb hlast hm1 h1 hm
        go_upto_region 21 with (fail)
        refine wp_region_kept (S := fun w' => w'.cell? ⟨w1.heap.size, 0, none⟩ = some (.slice ov ss.length cv)) 99 (by kernel_rfl) ?_
        have hS0 := cell_drew r8
        have HD := Lib.hid (belowS HD.out ((Below.refl wx.heap.size wx).drew))
        clear r8
        refine KeptAny.take (i := 0) (v := ?_) (by kernel_rfl) rfl rfl (by kernel_rfl) (by kernel_rfl) (by kernel_rfl) (fun _ _ _ h => h) (by kernel_rfl) (fun w' hw' => ?_) (fun _ => rfl) hS0 ?_
        rotate_left
        · (go_simp; try with_reducible rfl)
        refine KeptAny.take (i := 1) (v := ?_) (by kernel_rfl) rfl rfl (by kernel_rfl) (by kernel_rfl) (by kernel_rfl) (fun _ _ _ h => h) (by kernel_rfl) (fun w' hw' => ?_) (fun _ => rfl) hS0 ?_
        rotate_left
        · (go_simp; try with_reducible rfl)
        refine KeptAny.take (i := 2) (v := ?_) (by kernel_rfl) rfl rfl (by kernel_rfl) (by kernel_rfl) (by kernel_rfl) (fun _ _ _ h => h) (by kernel_rfl) (fun w' hw' => ?_) (fun _ => rfl) hS0 ?_
        rotate_left
        · (go_simp; try with_reducible rfl)
        refine KeptAny.take (i := 3) (v := ?_) (by kernel_rfl) rfl rfl (by kernel_rfl) (by kernel_rfl) (by kernel_rfl) (fun _ _ _ h => h) (by kernel_rfl) (fun w' hw' => ?_) (fun _ => rfl) hS0 ?_
        rotate_left
        · (go_simp; try with_reducible rfl)
        refine KeptAny.take (i := 4) (v := ?_) (by kernel_rfl) rfl rfl (by kernel_rfl) (by kernel_rfl) (by kernel_rfl) (fun _ _ _ h => h) (by kernel_rfl) (fun w' hw' => ?_) (fun _ => rfl) hS0 ?_
        rotate_left
        · (go_simp; try with_reducible rfl)
        refine KeptAny.take (i := 5) (v := .int .i64 (m : Int)) (by kernel_rfl) rfl rfl (by kernel_rfl) (by kernel_rfl) (by kernel_rfl) (fun _ _ _ h => h) (by kernel_rfl) (fun w' hw' => ?_) (fun _ => rfl) hS0 ?_
        · (go_simp)
        refine KeptAny.take (i := 6) (v := .string (P.extract 0 m)) (by kernel_rfl) rfl rfl (by kernel_rfl) (by kernel_rfl) (by kernel_rfl) (fun _ _ _ h => h) (by kernel_rfl) (fun w' hw' => ?_) (fun _ => rfl) hS0 ?_
        · (have hq := hsl w'; go_simp; try exact hq)
        clear hsl hsub
        refine KeptAny.one (i := 7) (by kernel_rfl) rfl (by kernel_rfl) (fun K hK => ?_)
        go_simp
        refine ⟨trivial, ?_⟩
        refine ((callsIn_wide (n := 5)).2 (implFindPath_any ss HF.out ov cv s (P.extract 0 m) HPM.out _ (HC1.out.below HD.out (Nat.le_refl _)) (HEB.out.at HD.out))).mono ?_
        intro e wy hgot
        obtain ⟨o4, c4, bs, ok4, rfl, hv4, ha4, -, hbx⟩ := hgot.val
        have hbs : bs = fpUp ss s.toNat (P.extract 0 m) (P.extract 0 m).size := by
          rcases hv4 with ⟨h1, _⟩ | ⟨_, h2, _⟩
          · exact absurd HL.out.1 h1
          · exact h2
        have HBS : Hid (ys = fpStep ss bs (P.extract m P.size) ∧ ∀ q ∈ bs, IsPlace ss q) := Lib.hid ⟨by rw [hbs]; exact HL.out.2.2, by rw [hbs]; exact (fpUp_ok HOK.out.1.1.1 _ _ _).2⟩
        have A4 := Lib.hid ha4
        have HD := Lib.hid (belowS HD.out hbx)
        have hS0 := cell_grow hbx hS0
        clear hgot hv4 ha4 hbx hbs
        refine hK.out _ _ hS0 (fun _ => ?_)
        clear hK
        refine KeptAny.take (i := 8) (v := ?_) (by kernel_rfl) rfl rfl (by kernel_rfl) (by kernel_rfl) (by kernel_rfl) (fun _ _ _ h => h) (by kernel_rfl) (fun w' hw' => ?_) (fun _ => rfl) hS0 ?_
        rotate_left
        · (go_simp; try with_reducible rfl)
        refine KeptAny.take (i := 9) (v := ?_) (by kernel_rfl) rfl rfl (by kernel_rfl) (by kernel_rfl) (by kernel_rfl) (fun _ _ _ h => h) (by kernel_rfl) (fun w' hw' => ?_) (fun _ => rfl) hS0 ?_
        rotate_left
        · (go_simp; try with_reducible rfl)
        refine KeptAny.take (i := 10) (v := ?_) (by kernel_rfl) rfl rfl (by kernel_rfl) (by kernel_rfl) (by kernel_rfl) (fun _ _ _ h => h) (by kernel_rfl) (fun w' hw' => ?_) (fun _ => rfl) hS0 ?_
        rotate_left
        · (go_simp; try with_reducible rfl)
        refine KeptAny.one (i := 11) (by kernel_rfl) rfl (by kernel_rfl) (fun K hK => ?_)
        go_simp
        refine hK.out _ _ hS0 (fun _ => ?_)
        clear hK
        refine KeptAny.one (i := 12) (by kernel_rfl) rfl (by kernel_rfl) (fun K hK => ?_)
        go_simp
        refine hK.out _ _ hS0 (fun _ => ?_)
        clear hK
        refine KeptAny.done (by kernel_rfl) ?_ _
        clear hS0
        have hbI := (Below.refl wy.heap.size wy).alloc (Nat.le_refl _) (.cells #[] 26)
        have HDI := Lib.hid (belowS HD.out hbI)
        have A4b := Lib.hid (A4.out.below hbI)
        clear hbI
        by_cases hb1 : bs.length = 1
        · have hb11 : ((bs.length : Int) == 1) = true := by rw [hb1]; rfl
          obtain ⟨q, rfl⟩ := List.length_eq_one_iff.1 hb1
          obtain ⟨i0, j0, sc, x, rfl, hsc, hx⟩ := HBS.out.2 q (List.mem_singleton.2 rfl)
          have hal : aloneP ss [((i0 : Int), (j0 : Int))] = x.scope := scopeAt_of hsc hx
          have HX : Hid (itemAtP ss (i0 : Int) (j0 : Int) = some x) := Lib.hid (by rw [itemAtP_nat hsc, hx])
          have HSC : Hid ((x.scope = -1 ∨ ∃ m : Nat, x.scope = (m : Int) ∧ m < ss.length) ∧ ys = if x.scope = -1 then [] else ownP ss x.scope.toNat (P.extract m P.size)) := Lib.hid ⟨by rw [← hal]; exact alone_scope HOK.out.1.1.1 HBS.out.2, by have := HBS.out.1; unfold fpStep at this; rw [hal] at this; exact this⟩
          obtain ⟨bl, offl, rfl, hbl, hcl⟩ := A4b.out.at (by simp)
          obtain ⟨k0, k1⟩ := hcl 0 ((i0 : Int), (j0 : Int)) rfl
          rw [Nat.zero_mul, Nat.add_zero] at k0
          rw [Nat.zero_mul, Nat.add_zero] at k1
          have r9 := (RB1.out.below HDI.out RB1.out.lt).cell (i := 0) (v := .slice ov ss.length cv) (by rfl)
          have HBL : Hid (∀ n, (wy.alloc (.cells #[] 26)).heap.size ≤ n → bl ≠ n) := Lib.hid (fun n hn => by omega)
          clear hal hsc hx hb1 hcl hbl A4 A4b
          go_upto_region 24 with (fail)
          refine wp_region_kept (S := fun w' => w'.cell? ⟨w1.heap.size, 0, none⟩ = some (.slice ov ss.length cv) ∧ w'.cell? ⟨bl, offl, none⟩ = some (.int .i64 (i0 : Int)) ∧ w'.cell? ⟨bl, offl + 1, none⟩ = some (.int .i64 (j0 : Int))) 99 (by kernel_rfl) ?_
          generalize wy.alloc (.cells #[] 26) = wI at *
          have hS0 := And.intro (cell_drew r9) (And.intro (cell_drew k0) (cell_drew k1))
          have HD := Lib.hid (belowS HDI.out ((Below.refl wI.heap.size wI).drew))
          clear r9 k0 k1
          refine KeptAny.take (i := 0) (v := ?_) (by kernel_rfl) rfl rfl (by kernel_rfl) (by kernel_rfl) (by kernel_rfl) (fun _ _ _ h => h) (by kernel_rfl) (fun w' hw' => ?_) (fun _ => rfl) hS0 ?_
          rotate_left
          · (obtain ⟨g0, g1, g2⟩ := hw'; go_simp; try with_reducible rfl)
          refine KeptAny.take (i := 1) (v := ?_) (by kernel_rfl) rfl rfl (by kernel_rfl) (by kernel_rfl) (by kernel_rfl) (fun _ _ _ h => h) (by kernel_rfl) (fun w' hw' => ?_) (fun _ => rfl) hS0 ?_
          rotate_left
          · (obtain ⟨g0, g1, g2⟩ := hw'; go_simp; try with_reducible rfl)
          refine KeptAny.take (i := 2) (v := ?_) (by kernel_rfl) rfl rfl (by kernel_rfl) (by kernel_rfl) (by kernel_rfl) (fun _ _ _ h => h) (by kernel_rfl) (fun w' hw' => ?_) (fun _ => rfl) hS0 ?_
          rotate_left
          · (obtain ⟨g0, g1, g2⟩ := hw'; go_simp; try with_reducible rfl)
          refine KeptAny.take (i := 3) (v := ?_) (by kernel_rfl) rfl rfl (by kernel_rfl) (by kernel_rfl) (by kernel_rfl) (fun _ _ _ h => h) (by kernel_rfl) (fun w' hw' => ?_) (fun _ => rfl) hS0 ?_
          rotate_left
          · (obtain ⟨g0, g1, g2⟩ := hw'; go_simp; try with_reducible rfl)
          refine KeptAny.two (i := 4) (j := 8) (by kernel_rfl) ⟨_, rfl, by kernel_rfl, fun K hK => ?_⟩ ⟨_, rfl, by kernel_rfl, fun K hK => ?_⟩
          · go_simp
            refine ⟨trivial, ?_⟩
            refine ((callsIn_wide (n := 5)).2 (itemAt_hereF HF.out HOK.out.1.1.1 HX.out _ (HC1.out.below HD.out (Nat.le_refl _)) (HEB.out.nodes.trees.at HD.out))).mono ?_
            rintro e wz ⟨rfl, hbx⟩
            have HIZ : Hid (wI.heap.size ≤ wz.heap.size) := Lib.hid (by have := hbx.size; simpa using this)
            have HD := Lib.hid (belowS HD.out hbx)
            have hS0 := And.intro (cell_grow hbx hS0.1) (And.intro (cell_grow hbx hS0.2.1) (cell_grow hbx hS0.2.2))
            clear hbx
            refine hK.out _ _ hS0 (fun _ => ?_)
            clear hK
            refine KeptAny.take (i := 5) (v := ?_) (by kernel_rfl) rfl rfl (by kernel_rfl) (by kernel_rfl) (by kernel_rfl) (fun _ _ _ h => h) (by kernel_rfl) (fun w' hw' => ?_) (fun _ => rfl) hS0 ?_
            rotate_left
            · (obtain ⟨g0, g1, g2⟩ := hw'; go_simp; try with_reducible rfl)
            refine KeptAny.take (i := 6) (v := ?_) (by kernel_rfl) rfl rfl (by kernel_rfl) (by kernel_rfl) (by kernel_rfl) (fun _ _ _ h => h) (by kernel_rfl) (fun w' hw' => ?_) (fun _ => rfl) hS0 ?_
            rotate_left
            · (obtain ⟨g0, g1, g2⟩ := hw'; go_simp; try with_reducible rfl)
            refine KeptAny.take (i := 7) (v := ?_) (by kernel_rfl) rfl rfl (by kernel_rfl) (by kernel_rfl) (by kernel_rfl) (fun _ _ _ h => h) (by kernel_rfl) (fun w' hw' => ?_) (fun _ => rfl) hS0 ?_
            rotate_left
            · (obtain ⟨g0, g1, g2⟩ := hw'; go_simp; try with_reducible rfl)
            have hba := (Below.refl wz.heap.size wz).alloc (Nat.le_refl _) (.cells #[.int .i64 0, .string ⟨#[]⟩, .int .i64 0] 37)
            have RI := Row.new wz [.int .i64 0, .string ⟨#[]⟩, .int .i64 0] 37
            have hS1 := And.intro (cell_grow hba hS0.1) (And.intro (cell_grow hba hS0.2.1) (cell_grow hba hS0.2.2))
            have HDA := Lib.hid (belowS HD.out hba)
            refine KeptAny.one (i := 8) (by kernel_rfl) rfl (by kernel_rfl) (fun K hK => ?_)
            go_simp
            refine hK.out _ _ hS1 (fun _ => ?_)
            clear hK hba
            have q0 := RI.cell (i := 0) (v := .int .i64 0) (by rfl)
            have q1 := RI.cell (i := 1) (v := .string ⟨#[]⟩) (by rfl)
            have q2 := RI.cell (i := 2) (v := .int .i64 0) (by rfl)
            have qf : ∀ k, (wz.alloc (.cells #[.int .i64 0, .string ⟨#[]⟩, .int .i64 0] 37)).frozen? ⟨wz.heap.size, k, none⟩ = false := fun k => RI.frozen k
            have hb3 := (Below.refl wz.heap.size wz).alloc (Nat.le_refl _) (.cells #[.int .i64 x.kind, .string x.name, .int .i64 x.scope] 37)
            have RI3 := Lib.hid (Row.new wz [.int .i64 x.kind, .string x.name, .int .i64 x.scope] 37)
            have HD3 := Lib.hid (belowS HD.out hb3)
            have hS3 := And.intro (cell_grow hb3 hS0.1) (And.intro (cell_grow hb3 hS0.2.1) (cell_grow hb3 hS0.2.2))
            refine KeptAny.one (i := 9) (by kernel_rfl) rfl (by kernel_rfl) (fun K hK => ?_)
            go_simp
            refine hK.out _ _ hS3 (fun _ => ?_)
            clear hK
            refine KeptAny.one (i := 10) (by kernel_rfl) rfl (by kernel_rfl) (fun K hK => ?_)
            go_simp
            refine hK.out _ _ hS3 (fun _ => ?_)
            clear hK
            refine KeptAny.done (by kernel_rfl) ?_ _
            clear q0 q1 q2 qf hS0 hS1 hS3 hb3 RI
            generalize hnI : wz.heap.size = nI at *
            generalize hW4 : wz.alloc (.cells #[.int .i64 x.kind, .string x.name, .int .i64 x.scope] 37) = W4 at *
            obtain ⟨hsc | ⟨m2, hsc, hm2⟩, hysc⟩ := HSC.out
            · rw [if_pos hsc] at hysc
              subst hysc
              have c2 := RI3.out.cell (i := 2) (v := .int .i64 x.scope) (by rfl)
              rw [hsc] at c2
              go_wp2_with fail
              refine (list_selfF ([] : List (Int × Int)) (some ⟨wy.heap.size, 0, none⟩) o1 0 c1 _ (by simp) (.inl rfl) (A1b.out.below HD3.out)).mono ?_
              rintro e w9 ⟨rfl, hb9⟩
              have XE := Lib.hid (belowS HB.out (belowS HD3.out hb9))
              clear hb9
              go_wp2
              go_ret
              exact ⟨rfl, XE.out⟩
            · have c2 := RI3.out.cell (i := 2) (v := .int .i64 x.scope) (by rfl)
              rw [hsc] at c2
              rw [if_neg (by rw [hsc]; omega), hsc] at hysc
              have HYS := Lib.hid hysc
              have HM2 := Lib.hid hm2
              have hge : (0 : Int) ≤ (m2 : Int) := Int.natCast_nonneg m2
              have r10 := (RB1.out.below HD3.out RB1.out.lt).cell (i := 0) (v := .slice ov ss.length cv) (by rfl)
              have hsub : IntKind.i64.wrap ((P.size : Int) - 1) = (m : Int) := by have := HM.out; rw [IntWalk.i64_in _ (by omega)]; omega
              have hsl := HSB.out
              clear hysc hm2 hsc
              go_upto_region 26 with (fail)
              refine wp_region_kept (S := fun w' => w'.cell? ⟨w1.heap.size, 0, none⟩ = some (.slice ov ss.length cv) ∧ w'.cell? ⟨nI, 2, none⟩ = some (.int .i64 (m2 : Int))) 99 (by kernel_rfl) ?_
              have hS0 := And.intro (cell_drew r10) (cell_drew c2)
              have HD := Lib.hid (belowS HD3.out ((Below.refl W4.heap.size W4).drew))
              clear r10 c2
              refine KeptAny.take (i := 0) (v := ?_) (by kernel_rfl) rfl rfl (by kernel_rfl) (by kernel_rfl) (by kernel_rfl) (fun _ _ _ h => h) (by kernel_rfl) (fun w' hw' => ?_) (fun _ => rfl) hS0 ?_
              rotate_left
              · (obtain ⟨g0, g1⟩ := hw'; go_simp; try with_reducible rfl)
              refine KeptAny.take (i := 1) (v := ?_) (by kernel_rfl) rfl rfl (by kernel_rfl) (by kernel_rfl) (by kernel_rfl) (fun _ _ _ h => h) (by kernel_rfl) (fun w' hw' => ?_) (fun _ => rfl) hS0 ?_
              rotate_left
              · (obtain ⟨g0, g1⟩ := hw'; go_simp; try with_reducible rfl)
              refine KeptAny.take (i := 2) (v := ?_) (by kernel_rfl) rfl rfl (by kernel_rfl) (by kernel_rfl) (by kernel_rfl) (fun _ _ _ h => h) (by kernel_rfl) (fun w' hw' => ?_) (fun _ => rfl) hS0 ?_
              rotate_left
              · (obtain ⟨g0, g1⟩ := hw'; go_simp; try with_reducible rfl)
              refine KeptAny.take (i := 3) (v := ?_) (by kernel_rfl) rfl rfl (by kernel_rfl) (by kernel_rfl) (by kernel_rfl) (fun _ _ _ h => h) (by kernel_rfl) (fun w' hw' => ?_) (fun _ => rfl) hS0 ?_
              rotate_left
              · (obtain ⟨g0, g1⟩ := hw'; go_simp; try with_reducible rfl)
              refine KeptAny.take (i := 4) (v := ?_) (by kernel_rfl) rfl rfl (by kernel_rfl) (by kernel_rfl) (by kernel_rfl) (fun _ _ _ h => h) (by kernel_rfl) (fun w' hw' => ?_) (fun _ => rfl) hS0 ?_
              rotate_left
              · (obtain ⟨g0, g1⟩ := hw'; go_simp; try with_reducible rfl)
              refine KeptAny.take (i := 5) (v := ?_) (by kernel_rfl) rfl rfl (by kernel_rfl) (by kernel_rfl) (by kernel_rfl) (fun _ _ _ h => h) (by kernel_rfl) (fun w' hw' => ?_) (fun _ => rfl) hS0 ?_
              rotate_left
              · (obtain ⟨g0, g1⟩ := hw'; go_simp; try with_reducible rfl)
              refine KeptAny.take (i := 6) (v := .int .i64 (m : Int)) (by kernel_rfl) rfl rfl (by kernel_rfl) (by kernel_rfl) (by kernel_rfl) (fun _ _ _ h => h) (by kernel_rfl) (fun w' hw' => ?_) (fun _ => rfl) hS0 ?_
              · (go_simp)
              refine KeptAny.take (i := 7) (v := .string (P.extract m P.size)) (by kernel_rfl) rfl rfl (by kernel_rfl) (by kernel_rfl) (by kernel_rfl) (fun _ _ _ h => h) (by kernel_rfl) (fun w' hw' => ?_) (fun _ => rfl) hS0 ?_
              · (have hq := hsl w'; go_simp; try exact hq)
              clear hsl hsub
              refine KeptAny.one (i := 8) (by kernel_rfl) rfl (by kernel_rfl) (fun K hK => ?_)
              go_simp
              refine ⟨trivial, ?_⟩
              refine ((callsIn_wide (n := 5)).2 (implOwn_any ss HF.out ov cv (m2 : Int) (P.extract m P.size) _ (HC1.out.below HD.out (Nat.le_refl _)) (HEB.out.at HD.out))).mono ?_
              intro e wz2 hgot
              obtain ⟨o5, c5, zs, ok5, rfl, hv5, ha5, -, hbx⟩ := hgot.val
              obtain rfl : zs = ys := by
                rcases hv5 with ⟨h1, _⟩ | ⟨_, h2, _⟩
                · exact absurd ⟨⟨HOK.out.1.1.1, by omega, by have := HM2.out; omega⟩, HL.out.2.1⟩ h1
                · rw [h2, HYS.out]
              have A5 := Lib.hid ha5
              have HD := Lib.hid (belowS HD.out hbx)
              have A1x := A1b.out.below HD.out
              have hS0 := And.intro (cell_grow hbx hS0.1) (cell_grow hbx hS0.2)
              clear hgot hv5 ha5 hbx A1x
              refine hK.out _ _ hS0 (fun _ => ?_)
              clear hK
              refine KeptAny.take (i := 9) (v := ?_) (by kernel_rfl) rfl rfl (by kernel_rfl) (by kernel_rfl) (by kernel_rfl) (fun _ _ _ h => h) (by kernel_rfl) (fun w' hw' => ?_) (fun _ => rfl) hS0 ?_
              rotate_left
              · (obtain ⟨g0, g1⟩ := hw'; go_simp; try with_reducible rfl)
              refine KeptAny.take (i := 10) (v := ?_) (by kernel_rfl) rfl rfl (by kernel_rfl) (by kernel_rfl) (by kernel_rfl) (fun _ _ _ h => h) (by kernel_rfl) (fun w' hw' => ?_) (fun _ => rfl) hS0 ?_
              rotate_left
              · (obtain ⟨g0, g1⟩ := hw'; go_simp; try with_reducible rfl)
              refine KeptAny.take (i := 11) (v := ?_) (by kernel_rfl) rfl rfl (by kernel_rfl) (by kernel_rfl) (by kernel_rfl) (fun _ _ _ h => h) (by kernel_rfl) (fun w' hw' => ?_) (fun _ => rfl) hS0 ?_
              rotate_left
              · (obtain ⟨g0, g1⟩ := hw'; go_simp; try with_reducible rfl)
              refine KeptAny.one (i := 12) (by kernel_rfl) rfl (by kernel_rfl) (fun K hK => ?_)
              go_simp
              refine hK.out _ _ hS0 (fun _ => ?_)
              clear hK
              refine KeptAny.done (by kernel_rfl) ?_ _
              clear hS0
              go_wp2_with fail
              refine (list_selfF zs o5 o1 c5 c1 _ (by omega) A5.out (A1b.out.below HD.out)).mono ?_
              rintro e w9 ⟨rfl, hb9⟩
              have XE := Lib.hid (belowS HB.out (belowS HD.out hb9))
              clear hb9
              go_wp2
              go_ret
              exact ⟨rfl, XE.out⟩
          · go_simp
            have hba := (Below.refl wI.drew.heap.size wI.drew).alloc (Nat.le_refl _) (.cells #[.int .i64 0, .string ⟨#[]⟩, .int .i64 0] 37)
            have RI : Row (wI.drew.alloc (.cells #[.int .i64 0, .string ⟨#[]⟩, .int .i64 0] 37)) wI.heap.size 37 [.int .i64 0, .string ⟨#[]⟩, .int .i64 0] := Row.new wI.drew [.int .i64 0, .string ⟨#[]⟩, .int .i64 0] 37
            have hS1 := And.intro (cell_grow hba hS0.1) (And.intro (cell_grow hba hS0.2.1) (cell_grow hba hS0.2.2))
            have HDA := Lib.hid (belowS HD.out hba)
            refine hK.out _ _ hS1 (fun _ => ?_)
            clear hK hS0 hba
            refine KeptAny.one (i := 4) (by kernel_rfl) rfl (by kernel_rfl) (fun K hK => ?_)
            go_simp
            refine ⟨trivial, ?_⟩
            refine ((callsIn_wide (n := 5)).2 (itemAt_hereF HF.out HOK.out.1.1.1 HX.out _ (HC1.out.below HDA.out (Nat.le_refl _)) (HEB.out.nodes.trees.at HDA.out))).mono ?_
            rintro e wz ⟨rfl, hbx⟩
            have HDA := Lib.hid (belowS HDA.out hbx)
            have hS1 := And.intro (cell_grow hbx hS1.1) (And.intro (cell_grow hbx hS1.2.1) (cell_grow hbx hS1.2.2))
            have RI := RI.below hbx RI.lt
            clear hbx
            refine hK.out _ _ hS1 (fun _ => ?_)
            clear hK
            refine KeptAny.take (i := 5) (v := ?_) (by kernel_rfl) rfl rfl (by kernel_rfl) (by kernel_rfl) (by kernel_rfl) (fun _ _ _ h => h) (by kernel_rfl) (fun w' hw' => ?_) (fun _ => rfl) hS1 ?_
            rotate_left
            · (obtain ⟨g0, g1, g2⟩ := hw'; go_simp; try with_reducible rfl)
            refine KeptAny.take (i := 6) (v := ?_) (by kernel_rfl) rfl rfl (by kernel_rfl) (by kernel_rfl) (by kernel_rfl) (fun _ _ _ h => h) (by kernel_rfl) (fun w' hw' => ?_) (fun _ => rfl) hS1 ?_
            rotate_left
            · (obtain ⟨g0, g1, g2⟩ := hw'; go_simp; try with_reducible rfl)
            refine KeptAny.take (i := 7) (v := ?_) (by kernel_rfl) rfl rfl (by kernel_rfl) (by kernel_rfl) (by kernel_rfl) (fun _ _ _ h => h) (by kernel_rfl) (fun w' hw' => ?_) (fun _ => rfl) hS1 ?_
            rotate_left
            · (obtain ⟨g0, g1, g2⟩ := hw'; go_simp; try with_reducible rfl)
            have q0 := RI.cell (i := 0) (v := .int .i64 0) (by rfl)
            have q1 := RI.cell (i := 1) (v := .string ⟨#[]⟩) (by rfl)
            have q2 := RI.cell (i := 2) (v := .int .i64 0) (by rfl)
            have qf : ∀ k, (wz).frozen? ⟨wI.heap.size, k, none⟩ = false := fun k => RI.frozen k
            have RI3 := ((RI.set 0 (.int .i64 x.kind)).set 1 (.string x.name)).set 2 (.int .i64 x.scope)
            have hwb : wB.heap.size ≤ wI.heap.size := by have := HD.out.size; simpa using this
            have HD3 := Lib.hid (((HDA.out.setCell (p := ⟨wI.heap.size, 0, none⟩) hwb (.int .i64 x.kind)).setCell (p := ⟨wI.heap.size, 1, none⟩) hwb (.string x.name)).setCell (p := ⟨wI.heap.size, 2, none⟩) hwb (.int .i64 x.scope))
            have r3 := (RB1.out.below HD3.out RB1.out.lt).cell (i := 0) (v := .slice ov ss.length cv) (by rfl)
            have hS3 := And.intro r3 (And.intro ((((setCell_farK (show bl ≠ wI.heap.size from HBL.out wI.heap.size (by first | exact Nat.le_refl _ | exact HIZ.out | simp)) (.int .i64 x.kind) (.string x.name) (.int .i64 x.scope)).trans hS1.2.1))) ((setCell_farK (show bl ≠ wI.heap.size from HBL.out _ (by first | exact Nat.le_refl _ | exact HIZ.out | simp)) (.int .i64 x.kind) (.string x.name) (.int .i64 x.scope)).trans hS1.2.2))
            refine KeptAny.one (i := 9) (by kernel_rfl) rfl (by kernel_rfl) (fun K hK => ?_)
            go_simp
            refine hK.out _ _ hS3 (fun _ => ?_)
            clear hK
            refine KeptAny.one (i := 10) (by kernel_rfl) rfl (by kernel_rfl) (fun K hK => ?_)
            go_simp
            refine hK.out _ _ hS3 (fun _ => ?_)
            clear hK
            refine KeptAny.done (by kernel_rfl) ?_ _
            have RI3 := Lib.hid RI3
            clear q0 q1 q2 qf hS1 hS3 r3 RI
            generalize hnI : wI.heap.size = nI at *
            generalize hW4 : ((wz.setCell ⟨nI, 0, none⟩ (.int .i64 x.kind)).setCell ⟨nI, 1, none⟩ (.string x.name)).setCell ⟨nI, 2, none⟩ (.int .i64 x.scope) = W4 at *
            obtain ⟨hsc | ⟨m2, hsc, hm2⟩, hysc⟩ := HSC.out
            · rw [if_pos hsc] at hysc
              subst hysc
              have c2 := RI3.out.cell (i := 2) (v := .int .i64 x.scope) (by rfl)
              rw [hsc] at c2
              go_wp2_with fail
              refine (list_selfF ([] : List (Int × Int)) (some ⟨wy.heap.size, 0, none⟩) o1 0 c1 _ (by simp) (.inl rfl) (A1b.out.below HD3.out)).mono ?_
              rintro e w9 ⟨rfl, hb9⟩
              have XE := Lib.hid (belowS HB.out (belowS HD3.out hb9))
              clear hb9
              go_wp2
              go_ret
              exact ⟨rfl, XE.out⟩
            · have c2 := RI3.out.cell (i := 2) (v := .int .i64 x.scope) (by rfl)
              rw [hsc] at c2
              rw [if_neg (by rw [hsc]; omega), hsc] at hysc
              have HYS := Lib.hid hysc
              have HM2 := Lib.hid hm2
              have hge : (0 : Int) ≤ (m2 : Int) := Int.natCast_nonneg m2
              have r10 := (RB1.out.below HD3.out RB1.out.lt).cell (i := 0) (v := .slice ov ss.length cv) (by rfl)
              have hsub : IntKind.i64.wrap ((P.size : Int) - 1) = (m : Int) := by have := HM.out; rw [IntWalk.i64_in _ (by omega)]; omega
              have hsl := HSB.out
              clear hysc hm2 hsc
              go_upto_region 26 with (fail)
              refine wp_region_kept (S := fun w' => w'.cell? ⟨w1.heap.size, 0, none⟩ = some (.slice ov ss.length cv) ∧ w'.cell? ⟨nI, 2, none⟩ = some (.int .i64 (m2 : Int))) 99 (by kernel_rfl) ?_
              have hS0 := And.intro (cell_drew r10) (cell_drew c2)
              have HD := Lib.hid (belowS HD3.out ((Below.refl W4.heap.size W4).drew))
              clear r10 c2
              refine KeptAny.take (i := 0) (v := ?_) (by kernel_rfl) rfl rfl (by kernel_rfl) (by kernel_rfl) (by kernel_rfl) (fun _ _ _ h => h) (by kernel_rfl) (fun w' hw' => ?_) (fun _ => rfl) hS0 ?_
              rotate_left
              · (obtain ⟨g0, g1⟩ := hw'; go_simp; try with_reducible rfl)
              refine KeptAny.take (i := 1) (v := ?_) (by kernel_rfl) rfl rfl (by kernel_rfl) (by kernel_rfl) (by kernel_rfl) (fun _ _ _ h => h) (by kernel_rfl) (fun w' hw' => ?_) (fun _ => rfl) hS0 ?_
              rotate_left
              · (obtain ⟨g0, g1⟩ := hw'; go_simp; try with_reducible rfl)
              refine KeptAny.take (i := 2) (v := ?_) (by kernel_rfl) rfl rfl (by kernel_rfl) (by kernel_rfl) (by kernel_rfl) (fun _ _ _ h => h) (by kernel_rfl) (fun w' hw' => ?_) (fun _ => rfl) hS0 ?_
              rotate_left
              · (obtain ⟨g0, g1⟩ := hw'; go_simp; try with_reducible rfl)
              refine KeptAny.take (i := 3) (v := ?_) (by kernel_rfl) rfl rfl (by kernel_rfl) (by kernel_rfl) (by kernel_rfl) (fun _ _ _ h => h) (by kernel_rfl) (fun w' hw' => ?_) (fun _ => rfl) hS0 ?_
              rotate_left
              · (obtain ⟨g0, g1⟩ := hw'; go_simp; try with_reducible rfl)
              refine KeptAny.take (i := 4) (v := ?_) (by kernel_rfl) rfl rfl (by kernel_rfl) (by kernel_rfl) (by kernel_rfl) (fun _ _ _ h => h) (by kernel_rfl) (fun w' hw' => ?_) (fun _ => rfl) hS0 ?_
              rotate_left
              · (obtain ⟨g0, g1⟩ := hw'; go_simp; try with_reducible rfl)
              refine KeptAny.take (i := 5) (v := ?_) (by kernel_rfl) rfl rfl (by kernel_rfl) (by kernel_rfl) (by kernel_rfl) (fun _ _ _ h => h) (by kernel_rfl) (fun w' hw' => ?_) (fun _ => rfl) hS0 ?_
              rotate_left
              · (obtain ⟨g0, g1⟩ := hw'; go_simp; try with_reducible rfl)
              refine KeptAny.take (i := 6) (v := .int .i64 (m : Int)) (by kernel_rfl) rfl rfl (by kernel_rfl) (by kernel_rfl) (by kernel_rfl) (fun _ _ _ h => h) (by kernel_rfl) (fun w' hw' => ?_) (fun _ => rfl) hS0 ?_
              · (go_simp)
              refine KeptAny.take (i := 7) (v := .string (P.extract m P.size)) (by kernel_rfl) rfl rfl (by kernel_rfl) (by kernel_rfl) (by kernel_rfl) (fun _ _ _ h => h) (by kernel_rfl) (fun w' hw' => ?_) (fun _ => rfl) hS0 ?_
              · (have hq := hsl w'; go_simp; try exact hq)
              clear hsl hsub
              refine KeptAny.one (i := 8) (by kernel_rfl) rfl (by kernel_rfl) (fun K hK => ?_)
              go_simp
              refine ⟨trivial, ?_⟩
              refine ((callsIn_wide (n := 5)).2 (implOwn_any ss HF.out ov cv (m2 : Int) (P.extract m P.size) _ (HC1.out.below HD.out (Nat.le_refl _)) (HEB.out.at HD.out))).mono ?_
              intro e wz2 hgot
              obtain ⟨o5, c5, zs, ok5, rfl, hv5, ha5, -, hbx⟩ := hgot.val
              obtain rfl : zs = ys := by
                rcases hv5 with ⟨h1, _⟩ | ⟨_, h2, _⟩
                · exact absurd ⟨⟨HOK.out.1.1.1, by omega, by have := HM2.out; omega⟩, HL.out.2.1⟩ h1
                · rw [h2, HYS.out]
              have A5 := Lib.hid ha5
              have HD := Lib.hid (belowS HD.out hbx)
              have A1x := A1b.out.below HD.out
              have hS0 := And.intro (cell_grow hbx hS0.1) (cell_grow hbx hS0.2)
              clear hgot hv5 ha5 hbx A1x
              refine hK.out _ _ hS0 (fun _ => ?_)
              clear hK
              refine KeptAny.take (i := 9) (v := ?_) (by kernel_rfl) rfl rfl (by kernel_rfl) (by kernel_rfl) (by kernel_rfl) (fun _ _ _ h => h) (by kernel_rfl) (fun w' hw' => ?_) (fun _ => rfl) hS0 ?_
              rotate_left
              · (obtain ⟨g0, g1⟩ := hw'; go_simp; try with_reducible rfl)
              refine KeptAny.take (i := 10) (v := ?_) (by kernel_rfl) rfl rfl (by kernel_rfl) (by kernel_rfl) (by kernel_rfl) (fun _ _ _ h => h) (by kernel_rfl) (fun w' hw' => ?_) (fun _ => rfl) hS0 ?_
              rotate_left
              · (obtain ⟨g0, g1⟩ := hw'; go_simp; try with_reducible rfl)
              refine KeptAny.take (i := 11) (v := ?_) (by kernel_rfl) rfl rfl (by kernel_rfl) (by kernel_rfl) (by kernel_rfl) (fun _ _ _ h => h) (by kernel_rfl) (fun w' hw' => ?_) (fun _ => rfl) hS0 ?_
              rotate_left
              · (obtain ⟨g0, g1⟩ := hw'; go_simp; try with_reducible rfl)
              refine KeptAny.one (i := 12) (by kernel_rfl) rfl (by kernel_rfl) (fun K hK => ?_)
              go_simp
              refine hK.out _ _ hS0 (fun _ => ?_)
              clear hK
              refine KeptAny.done (by kernel_rfl) ?_ _
              clear hS0
              go_wp2_with fail
              refine (list_selfF zs o5 o1 c5 c1 _ (by omega) A5.out (A1b.out.below HD.out)).mono ?_
              rintro e w9 ⟨rfl, hb9⟩
              have XE := Lib.hid (belowS HB.out (belowS HD.out hb9))
              clear hb9
              go_wp2
              go_ret
              exact ⟨rfl, XE.out⟩
        · have hb11 : ((bs.length : Int) == 1) = false := by rw [beq_eq_false_iff_ne]; omega
          have hy0 : ys = [] := by rw [HBS.out.1]; unfold fpStep; rw [if_pos (aloneP_not hb1)]
          subst hy0
          clear hb1
          go_wp2_with fail
          refine (list_selfF ([] : List (Int × Int)) (some ⟨wy.heap.size, 0, none⟩) o1 0 c1 _ (by simp) (.inl rfl) (A1b.out.below HDI.out)).mono ?_
          rintro e w9 ⟨rfl, hb9⟩
          have XE := Lib.hid (belowS HB.out (belowS HDI.out hb9))
          clear hb9
          go_wp2
          go_ret
          exact ⟨rfl, XE.out⟩
  · obtain ⟨hv2, x2, hx2, -, hQ2⟩ : Valid tt ∧ ∃ x, itemAtP tt a b = some x ∧ x.kind = 1 ∧ Q2 = pathF tt (chainP tt a.toNat) ++ x.name := by
      rcases HQ.out with ⟨h1, ⟨x, h2, h3, h4⟩, _⟩ | ⟨_, _, h3⟩
      · exact ⟨h1, x, h2, h3, h4⟩
      · cases h3
    obtain ⟨hsa, hns, hps⟩ := item_scope hv2 hx2
    have HV2 := Lib.hid (And.intro hv2 (And.intro hx2 (And.intro hsa hQ2)))
    have HSZ2 := Lib.hid (And.intro hns hps)
    have vx := (RV.out.below HD.out RV.out.lt).cell (i := 0) (v := .slice ov2 tt.length cv2) (by rfl)
    have px0 := (RP.out.below HD.out RP.out.lt).cell (i := 0) (v := .int .i64 a) (by rfl)
    have px1 := (RP.out.below HD.out RP.out.lt).cell (i := 1) (v := .int .i64 b) (by rfl)
    clear hv2 hx2 hsa hQ2 hns hps
    go_wp2_with fail
    refine (itemAt_hereF HF2.out HV2.out.1 HV2.out.2.1 _ (HC2.out.below HD.out (Nat.le_refl _)) (HEB.out.nodes.trees.at HD.out)).mono ?_
    rintro e wq ⟨rfl, hbq⟩
    have hbQ := hbq.trans (((Below.refl wq.heap.size wq).alloc (Nat.le_refl _) (.cells #[.int .i64 x2.kind, .string x2.name, .int .i64 x2.scope] 37)).mono hbq.size)
    have RX2 := Lib.hid (Row.new wq [.int .i64 x2.kind, .string x2.name, .int .i64 x2.scope] 37)
    have HDQ := Lib.hid (belowS HD.out hbQ)
    have vq := (RV.out.below HDQ.out RV.out.lt).cell (i := 0) (v := .slice ov2 tt.length cv2) (by rfl)
    have pq0 := (RP.out.below HDQ.out RP.out.lt).cell (i := 0) (v := .int .i64 a) (by rfl)
    clear hbq hbQ vx px0 px1
    go_wp2_with fail
    refine (implPath_any tt HF2.out ov2 cv2 a _ (HC2.out.below HDQ.out (Nat.le_refl _)) (HEB.out.nodes.at HDQ.out)).mono ?_
    rintro e wp2 ⟨str, okp, rfl, hpr, hbp⟩
    generalize wq.alloc (.cells #[.int .i64 x2.kind, .string x2.name, .int .i64 x2.scope] 37) = wQ at *
    obtain rfl : str = pathF tt (chainP tt a.toNat) := by
      rcases hpr with ⟨h1, _⟩ | ⟨_, h2, _⟩
      · exact absurd HV2.out.2.2.1 h1
      · exact h2
    have HDP := Lib.hid (belowS HDQ.out hbp)
    have x21 := (RX2.out.below hbp RX2.out.lt).cell (i := 1) (v := .string x2.name) (by rfl)
    obtain ⟨PF, hPF⟩ : ∃ PF, pathF tt (chainP tt a.toNat) = PF := ⟨_, rfl⟩
    have hov : ¬ 9223372036854775807 < PF.size + x2.name.size := by have := HSZ2.out.1; have := HSZ2.out.2; rw [hPF] at this; omega
    obtain ⟨Q3, hQ3⟩ : ∃ Q3, PF ++ x2.name = Q3 := ⟨_, rfl⟩
    obtain rfl : Q3 = Q2 := by rw [← hQ3, ← hPF]; exact HV2.out.2.2.2.symm
    have hne : (Q3.toList != Q3.toList) = false := by simp
    rw [hPF]
    have HD := HDP
    clear hpr hbp vq pq0 hPF
    cases ok'
    · have h0 : ys.length = 0 := by
        rcases V1.out with ⟨_, h2, _⟩ | ⟨_, _, h3⟩
        · rw [h2]; rfl
        · cases h3
      have h00 : ((ys.length : Int) == 0) = true := by rw [h0]; rfl
      have XE := Lib.hid (belowS HB.out HDP.out)
      clear h0 hyl
      go_wp2
      go_ret
      exact ⟨rfl, XE.out⟩
    · obtain ⟨hok, hys⟩ : fpOk ss s P ∧ ys = fpUp ss s.toNat P P.size := by
        rcases V1.out with ⟨_, _, h3⟩ | ⟨h1, h2, _⟩
        · cases h3
        · exact ⟨h1, h2⟩
      have HOK := Lib.hid (And.intro hok hys)
      have hp0 : 0 < P.size := hok.2.1
      clear hok hys
      have r8 := (RB1.out.below HDP.out RB1.out.lt).cell (i := 0) (v := .slice ov ss.length cv) (by rfl)
      by_cases h1 : P.size = 1
      · have h11 : ((P.size : Int) == 1) = true := by rw [h1]; rfl
        obtain ⟨hnb, hlk⟩ := fp_one HOK.out.1 h1
        have HLK := Lib.hid (And.intro hnb (HOK.out.2.trans hlk))
        clear h1 hnb hlk
        go_wp2_with fail
        refine (implLookUp_any ss HF.out ov cv s P _ (HC1.out.below HDP.out (Nat.le_refl _)) (HEB.out.at HDP.out)).mono ?_
        intro e w8 hgot
        obtain ⟨o3, c3, zs, ok3, rfl, hv3, ha3, -, hb8⟩ := hgot.val
        have hzy : zs = ys := by
          rcases hv3 with ⟨h1, _⟩ | ⟨_, h2, _⟩
          · exact absurd ⟨HOK.out.1.1, HLK.out.1⟩ h1
          · rw [h2, HLK.out.2]
        subst hzy
        have A3 := Lib.hid ha3
        have X8 := Lib.hid (belowS HDP.out hb8)
        clear hgot hv3 ha3 hb8 r8
        go_wp2_with fail
        refine (list_selfF zs o3 o1 c3 c1 _ (by omega) A3.out (A1b.out.below X8.out)).mono ?_
        rintro e w9 ⟨rfl, hb9⟩
        have XE := Lib.hid (belowS HB.out (belowS X8.out hb9))
        clear hb9
        go_wp2
        go_ret
        exact ⟨rfl, XE.out⟩
      · have h11 : ((P.size : Int) == 1) = false := by rw [beq_eq_false_iff_ne]; omega
        obtain ⟨m, hm⟩ : ∃ m, P.size = m + 1 := ⟨P.size - 1, by omega⟩
        obtain ⟨hok2, hnb, hlast⟩ := fp_last HOK.out.1 (by omega)
        have hm1 : P.size - 1 = m := by omega
        rw [hm1] at hok2 hnb hlast
        have HL := Lib.hid (And.intro hok2 (And.intro hnb (HOK.out.2.trans hlast)))
        have hsub : IntKind.i64.wrap ((P.size : Int) - 1) = (m : Int) := by rw [IntWalk.i64_in _ (by omega)]; omega
        have hsl := fun W => slice_front P m (by omega) W
        have HSB : Hid (∀ W, (Instr.slice 9 (.string P) (some (.int .i64 (m : Int))) none none).run Tryz.prog W = .ok (.string (P.extract m P.size)) W) := Lib.hid (fun W => slice_back P m (by omega) W)
        have HPM : Hid ((P.extract 0 m).size ≤ 1048576) := Lib.hid (by rw [ByteArray.size_extract]; omega)
        have HM := Lib.hid hm
        clear hok2 hnb hlast hm1 h1 hm
        go_upto_region 21 with (fail)
        refine wp_region_kept (S := fun w' => w'.cell? ⟨w1.heap.size, 0, none⟩ = some (.slice ov ss.length cv)) 99 (by kernel_rfl) ?_
        have hS0 := cell_drew r8
        have HD := Lib.hid (belowS HDP.out ((Below.refl wp2.heap.size wp2).drew))
        clear r8
        refine KeptAny.take (i := 0) (v := ?_) (by kernel_rfl) rfl rfl (by kernel_rfl) (by kernel_rfl) (by kernel_rfl) (fun _ _ _ h => h) (by kernel_rfl) (fun w' hw' => ?_) (fun _ => rfl) hS0 ?_
        rotate_left
        · (go_simp; try with_reducible rfl)
        refine KeptAny.take (i := 1) (v := ?_) (by kernel_rfl) rfl rfl (by kernel_rfl) (by kernel_rfl) (by kernel_rfl) (fun _ _ _ h => h) (by kernel_rfl) (fun w' hw' => ?_) (fun _ => rfl) hS0 ?_
        rotate_left
        · (go_simp; try with_reducible rfl)
        refine KeptAny.take (i := 2) (v := ?_) (by kernel_rfl) rfl rfl (by kernel_rfl) (by kernel_rfl) (by kernel_rfl) (fun _ _ _ h => h) (by kernel_rfl) (fun w' hw' => ?_) (fun _ => rfl) hS0 ?_
        rotate_left
        · (go_simp; try with_reducible rfl)
        refine KeptAny.take (i := 3) (v := ?_) (by kernel_rfl) rfl rfl (by kernel_rfl) (by kernel_rfl) (by kernel_rfl) (fun _ _ _ h => h) (by kernel_rfl) (fun w' hw' => ?_) (fun _ => rfl) hS0 ?_
        rotate_left
        · (go_simp; try with_reducible rfl)
        refine KeptAny.take (i := 4) (v := ?_) (by kernel_rfl) rfl rfl (by kernel_rfl) (by kernel_rfl) (by kernel_rfl) (fun _ _ _ h => h) (by kernel_rfl) (fun w' hw' => ?_) (fun _ => rfl) hS0 ?_
        rotate_left
        · (go_simp; try with_reducible rfl)
        refine KeptAny.take (i := 5) (v := .int .i64 (m : Int)) (by kernel_rfl) rfl rfl (by kernel_rfl) (by kernel_rfl) (by kernel_rfl) (fun _ _ _ h => h) (by kernel_rfl) (fun w' hw' => ?_) (fun _ => rfl) hS0 ?_
        · (go_simp)
        refine KeptAny.take (i := 6) (v := .string (P.extract 0 m)) (by kernel_rfl) rfl rfl (by kernel_rfl) (by kernel_rfl) (by kernel_rfl) (fun _ _ _ h => h) (by kernel_rfl) (fun w' hw' => ?_) (fun _ => rfl) hS0 ?_
        · (have hq := hsl w'; go_simp; try exact hq)
        clear hsl hsub
        refine KeptAny.one (i := 7) (by kernel_rfl) rfl (by kernel_rfl) (fun K hK => ?_)
        go_simp
        refine ⟨trivial, ?_⟩
        refine ((callsIn_wide (n := 5)).2 (implFindPath_any ss HF.out ov cv s (P.extract 0 m) HPM.out _ (HC1.out.below HD.out (Nat.le_refl _)) (HEB.out.at HD.out))).mono ?_
        intro e wy hgot
        obtain ⟨o4, c4, bs, ok4, rfl, hv4, ha4, -, hbx⟩ := hgot.val
        have hbs : bs = fpUp ss s.toNat (P.extract 0 m) (P.extract 0 m).size := by
          rcases hv4 with ⟨h1, _⟩ | ⟨_, h2, _⟩
          · exact absurd HL.out.1 h1
          · exact h2
        have HBS : Hid (ys = fpStep ss bs (P.extract m P.size) ∧ ∀ q ∈ bs, IsPlace ss q) := Lib.hid ⟨by rw [hbs]; exact HL.out.2.2, by rw [hbs]; exact (fpUp_ok HOK.out.1.1.1 _ _ _).2⟩
        have A4 := Lib.hid ha4
        have HD := Lib.hid (belowS HD.out hbx)
        have hS0 := cell_grow hbx hS0
        clear hgot hv4 ha4 hbx hbs
        refine hK.out _ _ hS0 (fun _ => ?_)
        clear hK
        refine KeptAny.take (i := 8) (v := ?_) (by kernel_rfl) rfl rfl (by kernel_rfl) (by kernel_rfl) (by kernel_rfl) (fun _ _ _ h => h) (by kernel_rfl) (fun w' hw' => ?_) (fun _ => rfl) hS0 ?_
        rotate_left
        · (go_simp; try with_reducible rfl)
        refine KeptAny.take (i := 9) (v := ?_) (by kernel_rfl) rfl rfl (by kernel_rfl) (by kernel_rfl) (by kernel_rfl) (fun _ _ _ h => h) (by kernel_rfl) (fun w' hw' => ?_) (fun _ => rfl) hS0 ?_
        rotate_left
        · (go_simp; try with_reducible rfl)
        refine KeptAny.take (i := 10) (v := ?_) (by kernel_rfl) rfl rfl (by kernel_rfl) (by kernel_rfl) (by kernel_rfl) (fun _ _ _ h => h) (by kernel_rfl) (fun w' hw' => ?_) (fun _ => rfl) hS0 ?_
        rotate_left
        · (go_simp; try with_reducible rfl)
        refine KeptAny.one (i := 11) (by kernel_rfl) rfl (by kernel_rfl) (fun K hK => ?_)
        go_simp
        refine hK.out _ _ hS0 (fun _ => ?_)
        clear hK
        refine KeptAny.one (i := 12) (by kernel_rfl) rfl (by kernel_rfl) (fun K hK => ?_)
        go_simp
        refine hK.out _ _ hS0 (fun _ => ?_)
        clear hK
        refine KeptAny.done (by kernel_rfl) ?_ _
        clear hS0
        have hbI := (Below.refl wy.heap.size wy).alloc (Nat.le_refl _) (.cells #[] 26)
        have HDI := Lib.hid (belowS HD.out hbI)
        have A4b := Lib.hid (A4.out.below hbI)
        clear hbI
        by_cases hb1 : bs.length = 1
        · have hb11 : ((bs.length : Int) == 1) = true := by rw [hb1]; rfl
          obtain ⟨q, rfl⟩ := List.length_eq_one_iff.1 hb1
          obtain ⟨i0, j0, sc, x, rfl, hsc, hx⟩ := HBS.out.2 q (List.mem_singleton.2 rfl)
          have hal : aloneP ss [((i0 : Int), (j0 : Int))] = x.scope := scopeAt_of hsc hx
          have HX : Hid (itemAtP ss (i0 : Int) (j0 : Int) = some x) := Lib.hid (by rw [itemAtP_nat hsc, hx])
          have HSC : Hid ((x.scope = -1 ∨ ∃ m : Nat, x.scope = (m : Int) ∧ m < ss.length) ∧ ys = if x.scope = -1 then [] else ownP ss x.scope.toNat (P.extract m P.size)) := Lib.hid ⟨by rw [← hal]; exact alone_scope HOK.out.1.1.1 HBS.out.2, by have := HBS.out.1; unfold fpStep at this; rw [hal] at this; exact this⟩
          obtain ⟨bl, offl, rfl, hbl, hcl⟩ := A4b.out.at (by simp)
          obtain ⟨k0, k1⟩ := hcl 0 ((i0 : Int), (j0 : Int)) rfl
          rw [Nat.zero_mul, Nat.add_zero] at k0
          rw [Nat.zero_mul, Nat.add_zero] at k1
          have r9 := (RB1.out.below HDI.out RB1.out.lt).cell (i := 0) (v := .slice ov ss.length cv) (by rfl)
          have HBL : Hid (∀ n, (wy.alloc (.cells #[] 26)).heap.size ≤ n → bl ≠ n) := Lib.hid (fun n hn => by omega)
          clear hal hsc hx hb1 hcl hbl A4 A4b
          go_upto_region 24 with (fail)
          refine wp_region_kept (S := fun w' => w'.cell? ⟨w1.heap.size, 0, none⟩ = some (.slice ov ss.length cv) ∧ w'.cell? ⟨bl, offl, none⟩ = some (.int .i64 (i0 : Int)) ∧ w'.cell? ⟨bl, offl + 1, none⟩ = some (.int .i64 (j0 : Int))) 99 (by kernel_rfl) ?_
          generalize wy.alloc (.cells #[] 26) = wI at *
          have hS0 := And.intro (cell_drew r9) (And.intro (cell_drew k0) (cell_drew k1))
          have HD := Lib.hid (belowS HDI.out ((Below.refl wI.heap.size wI).drew))
          clear r9 k0 k1
          refine KeptAny.take (i := 0) (v := ?_) (by kernel_rfl) rfl rfl (by kernel_rfl) (by kernel_rfl) (by kernel_rfl) (fun _ _ _ h => h) (by kernel_rfl) (fun w' hw' => ?_) (fun _ => rfl) hS0 ?_
          rotate_left
          · (obtain ⟨g0, g1, g2⟩ := hw'; go_simp; try with_reducible rfl)
          refine KeptAny.take (i := 1) (v := ?_) (by kernel_rfl) rfl rfl (by kernel_rfl) (by kernel_rfl) (by kernel_rfl) (fun _ _ _ h => h) (by kernel_rfl) (fun w' hw' => ?_) (fun _ => rfl) hS0 ?_
          rotate_left
          · (obtain ⟨g0, g1, g2⟩ := hw'; go_simp; try with_reducible rfl)
          refine KeptAny.take (i := 2) (v := ?_) (by kernel_rfl) rfl rfl (by kernel_rfl) (by kernel_rfl) (by kernel_rfl) (fun _ _ _ h => h) (by kernel_rfl) (fun w' hw' => ?_) (fun _ => rfl) hS0 ?_
          rotate_left
          · (obtain ⟨g0, g1, g2⟩ := hw'; go_simp; try with_reducible rfl)
          refine KeptAny.take (i := 3) (v := ?_) (by kernel_rfl) rfl rfl (by kernel_rfl) (by kernel_rfl) (by kernel_rfl) (fun _ _ _ h => h) (by kernel_rfl) (fun w' hw' => ?_) (fun _ => rfl) hS0 ?_
          rotate_left
          · (obtain ⟨g0, g1, g2⟩ := hw'; go_simp; try with_reducible rfl)
          refine KeptAny.two (i := 4) (j := 8) (by kernel_rfl) ⟨_, rfl, by kernel_rfl, fun K hK => ?_⟩ ⟨_, rfl, by kernel_rfl, fun K hK => ?_⟩
          · go_simp
            refine ⟨trivial, ?_⟩
            refine ((callsIn_wide (n := 5)).2 (itemAt_hereF HF.out HOK.out.1.1.1 HX.out _ (HC1.out.below HD.out (Nat.le_refl _)) (HEB.out.nodes.trees.at HD.out))).mono ?_
            rintro e wz ⟨rfl, hbx⟩
            have HIZ : Hid (wI.heap.size ≤ wz.heap.size) := Lib.hid (by have := hbx.size; simpa using this)
            have HD := Lib.hid (belowS HD.out hbx)
            have hS0 := And.intro (cell_grow hbx hS0.1) (And.intro (cell_grow hbx hS0.2.1) (cell_grow hbx hS0.2.2))
            clear hbx
            refine hK.out _ _ hS0 (fun _ => ?_)
            clear hK
            refine KeptAny.take (i := 5) (v := ?_) (by kernel_rfl) rfl rfl (by kernel_rfl) (by kernel_rfl) (by kernel_rfl) (fun _ _ _ h => h) (by kernel_rfl) (fun w' hw' => ?_) (fun _ => rfl) hS0 ?_
            rotate_left
            · (obtain ⟨g0, g1, g2⟩ := hw'; go_simp; try with_reducible rfl)
            refine KeptAny.take (i := 6) (v := ?_) (by kernel_rfl) rfl rfl (by kernel_rfl) (by kernel_rfl) (by kernel_rfl) (fun _ _ _ h => h) (by kernel_rfl) (fun w' hw' => ?_) (fun _ => rfl) hS0 ?_
            rotate_left
            · (obtain ⟨g0, g1, g2⟩ := hw'; go_simp; try with_reducible rfl)
            refine KeptAny.take (i := 7) (v := ?_) (by kernel_rfl) rfl rfl (by kernel_rfl) (by kernel_rfl) (by kernel_rfl) (fun _ _ _ h => h) (by kernel_rfl) (fun w' hw' => ?_) (fun _ => rfl) hS0 ?_
            rotate_left
            · (obtain ⟨g0, g1, g2⟩ := hw'; go_simp; try with_reducible rfl)
            have hba := (Below.refl wz.heap.size wz).alloc (Nat.le_refl _) (.cells #[.int .i64 0, .string ⟨#[]⟩, .int .i64 0] 37)
            have RI := Row.new wz [.int .i64 0, .string ⟨#[]⟩, .int .i64 0] 37
            have hS1 := And.intro (cell_grow hba hS0.1) (And.intro (cell_grow hba hS0.2.1) (cell_grow hba hS0.2.2))
            have HDA := Lib.hid (belowS HD.out hba)
            refine KeptAny.one (i := 8) (by kernel_rfl) rfl (by kernel_rfl) (fun K hK => ?_)
            go_simp
            refine hK.out _ _ hS1 (fun _ => ?_)
            clear hK hba
            have q0 := RI.cell (i := 0) (v := .int .i64 0) (by rfl)
            have q1 := RI.cell (i := 1) (v := .string ⟨#[]⟩) (by rfl)
            have q2 := RI.cell (i := 2) (v := .int .i64 0) (by rfl)
            have qf : ∀ k, (wz.alloc (.cells #[.int .i64 0, .string ⟨#[]⟩, .int .i64 0] 37)).frozen? ⟨wz.heap.size, k, none⟩ = false := fun k => RI.frozen k
            have hb3 := (Below.refl wz.heap.size wz).alloc (Nat.le_refl _) (.cells #[.int .i64 x.kind, .string x.name, .int .i64 x.scope] 37)
            have RI3 := Lib.hid (Row.new wz [.int .i64 x.kind, .string x.name, .int .i64 x.scope] 37)
            have HD3 := Lib.hid (belowS HD.out hb3)
            have hS3 := And.intro (cell_grow hb3 hS0.1) (And.intro (cell_grow hb3 hS0.2.1) (cell_grow hb3 hS0.2.2))
            refine KeptAny.one (i := 9) (by kernel_rfl) rfl (by kernel_rfl) (fun K hK => ?_)
            go_simp
            refine hK.out _ _ hS3 (fun _ => ?_)
            clear hK
            refine KeptAny.one (i := 10) (by kernel_rfl) rfl (by kernel_rfl) (fun K hK => ?_)
            go_simp
            refine hK.out _ _ hS3 (fun _ => ?_)
            clear hK
            refine KeptAny.done (by kernel_rfl) ?_ _
            clear q0 q1 q2 qf hS0 hS1 hS3 hb3 RI
            generalize hnI : wz.heap.size = nI at *
            generalize hW4 : wz.alloc (.cells #[.int .i64 x.kind, .string x.name, .int .i64 x.scope] 37) = W4 at *
            obtain ⟨hsc | ⟨m2, hsc, hm2⟩, hysc⟩ := HSC.out
            · rw [if_pos hsc] at hysc
              subst hysc
              have c2 := RI3.out.cell (i := 2) (v := .int .i64 x.scope) (by rfl)
              rw [hsc] at c2
              go_wp2_with fail
              refine (list_selfF ([] : List (Int × Int)) (some ⟨wy.heap.size, 0, none⟩) o1 0 c1 _ (by simp) (.inl rfl) (A1b.out.below HD3.out)).mono ?_
              rintro e w9 ⟨rfl, hb9⟩
              have XE := Lib.hid (belowS HB.out (belowS HD3.out hb9))
              clear hb9
              go_wp2
              go_ret
              exact ⟨rfl, XE.out⟩
            · have c2 := RI3.out.cell (i := 2) (v := .int .i64 x.scope) (by rfl)
              rw [hsc] at c2
              rw [if_neg (by rw [hsc]; omega), hsc] at hysc
              have HYS := Lib.hid hysc
              have HM2 := Lib.hid hm2
              have hge : (0 : Int) ≤ (m2 : Int) := Int.natCast_nonneg m2
              have r10 := (RB1.out.below HD3.out RB1.out.lt).cell (i := 0) (v := .slice ov ss.length cv) (by rfl)
              have hsub : IntKind.i64.wrap ((P.size : Int) - 1) = (m : Int) := by have := HM.out; rw [IntWalk.i64_in _ (by omega)]; omega
              have hsl := HSB.out
              clear hysc hm2 hsc
              go_upto_region 26 with (fail)
              refine wp_region_kept (S := fun w' => w'.cell? ⟨w1.heap.size, 0, none⟩ = some (.slice ov ss.length cv) ∧ w'.cell? ⟨nI, 2, none⟩ = some (.int .i64 (m2 : Int))) 99 (by kernel_rfl) ?_
              have hS0 := And.intro (cell_drew r10) (cell_drew c2)
              have HD := Lib.hid (belowS HD3.out ((Below.refl W4.heap.size W4).drew))
              clear r10 c2
              refine KeptAny.take (i := 0) (v := ?_) (by kernel_rfl) rfl rfl (by kernel_rfl) (by kernel_rfl) (by kernel_rfl) (fun _ _ _ h => h) (by kernel_rfl) (fun w' hw' => ?_) (fun _ => rfl) hS0 ?_
              rotate_left
              · (obtain ⟨g0, g1⟩ := hw'; go_simp; try with_reducible rfl)
              refine KeptAny.take (i := 1) (v := ?_) (by kernel_rfl) rfl rfl (by kernel_rfl) (by kernel_rfl) (by kernel_rfl) (fun _ _ _ h => h) (by kernel_rfl) (fun w' hw' => ?_) (fun _ => rfl) hS0 ?_
              rotate_left
              · (obtain ⟨g0, g1⟩ := hw'; go_simp; try with_reducible rfl)
              refine KeptAny.take (i := 2) (v := ?_) (by kernel_rfl) rfl rfl (by kernel_rfl) (by kernel_rfl) (by kernel_rfl) (fun _ _ _ h => h) (by kernel_rfl) (fun w' hw' => ?_) (fun _ => rfl) hS0 ?_
              rotate_left
              · (obtain ⟨g0, g1⟩ := hw'; go_simp; try with_reducible rfl)
              refine KeptAny.take (i := 3) (v := ?_) (by kernel_rfl) rfl rfl (by kernel_rfl) (by kernel_rfl) (by kernel_rfl) (fun _ _ _ h => h) (by kernel_rfl) (fun w' hw' => ?_) (fun _ => rfl) hS0 ?_
              rotate_left
              · (obtain ⟨g0, g1⟩ := hw'; go_simp; try with_reducible rfl)
              refine KeptAny.take (i := 4) (v := ?_) (by kernel_rfl) rfl rfl (by kernel_rfl) (by kernel_rfl) (by kernel_rfl) (fun _ _ _ h => h) (by kernel_rfl) (fun w' hw' => ?_) (fun _ => rfl) hS0 ?_
              rotate_left
              · (obtain ⟨g0, g1⟩ := hw'; go_simp; try with_reducible rfl)
              refine KeptAny.take (i := 5) (v := ?_) (by kernel_rfl) rfl rfl (by kernel_rfl) (by kernel_rfl) (by kernel_rfl) (fun _ _ _ h => h) (by kernel_rfl) (fun w' hw' => ?_) (fun _ => rfl) hS0 ?_
              rotate_left
              · (obtain ⟨g0, g1⟩ := hw'; go_simp; try with_reducible rfl)
              refine KeptAny.take (i := 6) (v := .int .i64 (m : Int)) (by kernel_rfl) rfl rfl (by kernel_rfl) (by kernel_rfl) (by kernel_rfl) (fun _ _ _ h => h) (by kernel_rfl) (fun w' hw' => ?_) (fun _ => rfl) hS0 ?_
              · (go_simp)
              refine KeptAny.take (i := 7) (v := .string (P.extract m P.size)) (by kernel_rfl) rfl rfl (by kernel_rfl) (by kernel_rfl) (by kernel_rfl) (fun _ _ _ h => h) (by kernel_rfl) (fun w' hw' => ?_) (fun _ => rfl) hS0 ?_
              · (have hq := hsl w'; go_simp; try exact hq)
              clear hsl hsub
              refine KeptAny.one (i := 8) (by kernel_rfl) rfl (by kernel_rfl) (fun K hK => ?_)
              go_simp
              refine ⟨trivial, ?_⟩
              refine ((callsIn_wide (n := 5)).2 (implOwn_any ss HF.out ov cv (m2 : Int) (P.extract m P.size) _ (HC1.out.below HD.out (Nat.le_refl _)) (HEB.out.at HD.out))).mono ?_
              intro e wz2 hgot
              obtain ⟨o5, c5, zs, ok5, rfl, hv5, ha5, -, hbx⟩ := hgot.val
              obtain rfl : zs = ys := by
                rcases hv5 with ⟨h1, _⟩ | ⟨_, h2, _⟩
                · exact absurd ⟨⟨HOK.out.1.1.1, by omega, by have := HM2.out; omega⟩, HL.out.2.1⟩ h1
                · rw [h2, HYS.out]
              have A5 := Lib.hid ha5
              have HD := Lib.hid (belowS HD.out hbx)
              have A1x := A1b.out.below HD.out
              have hS0 := And.intro (cell_grow hbx hS0.1) (cell_grow hbx hS0.2)
              clear hgot hv5 ha5 hbx A1x
              refine hK.out _ _ hS0 (fun _ => ?_)
              clear hK
              refine KeptAny.take (i := 9) (v := ?_) (by kernel_rfl) rfl rfl (by kernel_rfl) (by kernel_rfl) (by kernel_rfl) (fun _ _ _ h => h) (by kernel_rfl) (fun w' hw' => ?_) (fun _ => rfl) hS0 ?_
              rotate_left
              · (obtain ⟨g0, g1⟩ := hw'; go_simp; try with_reducible rfl)
              refine KeptAny.take (i := 10) (v := ?_) (by kernel_rfl) rfl rfl (by kernel_rfl) (by kernel_rfl) (by kernel_rfl) (fun _ _ _ h => h) (by kernel_rfl) (fun w' hw' => ?_) (fun _ => rfl) hS0 ?_
              rotate_left
              · (obtain ⟨g0, g1⟩ := hw'; go_simp; try with_reducible rfl)
              refine KeptAny.take (i := 11) (v := ?_) (by kernel_rfl) rfl rfl (by kernel_rfl) (by kernel_rfl) (by kernel_rfl) (fun _ _ _ h => h) (by kernel_rfl) (fun w' hw' => ?_) (fun _ => rfl) hS0 ?_
              rotate_left
              · (obtain ⟨g0, g1⟩ := hw'; go_simp; try with_reducible rfl)
              refine KeptAny.one (i := 12) (by kernel_rfl) rfl (by kernel_rfl) (fun K hK => ?_)
              go_simp
              refine hK.out _ _ hS0 (fun _ => ?_)
              clear hK
              refine KeptAny.done (by kernel_rfl) ?_ _
              clear hS0
              go_wp2_with fail
              refine (list_selfF zs o5 o1 c5 c1 _ (by omega) A5.out (A1b.out.below HD.out)).mono ?_
              rintro e w9 ⟨rfl, hb9⟩
              have XE := Lib.hid (belowS HB.out (belowS HD.out hb9))
              clear hb9
              go_wp2
              go_ret
              exact ⟨rfl, XE.out⟩
          · go_simp
            have hba := (Below.refl wI.drew.heap.size wI.drew).alloc (Nat.le_refl _) (.cells #[.int .i64 0, .string ⟨#[]⟩, .int .i64 0] 37)
            have RI : Row (wI.drew.alloc (.cells #[.int .i64 0, .string ⟨#[]⟩, .int .i64 0] 37)) wI.heap.size 37 [.int .i64 0, .string ⟨#[]⟩, .int .i64 0] := Row.new wI.drew [.int .i64 0, .string ⟨#[]⟩, .int .i64 0] 37
            have hS1 := And.intro (cell_grow hba hS0.1) (And.intro (cell_grow hba hS0.2.1) (cell_grow hba hS0.2.2))
            have HDA := Lib.hid (belowS HD.out hba)
            refine hK.out _ _ hS1 (fun _ => ?_)
            clear hK hS0 hba
            refine KeptAny.one (i := 4) (by kernel_rfl) rfl (by kernel_rfl) (fun K hK => ?_)
            go_simp
            refine ⟨trivial, ?_⟩
            refine ((callsIn_wide (n := 5)).2 (itemAt_hereF HF.out HOK.out.1.1.1 HX.out _ (HC1.out.below HDA.out (Nat.le_refl _)) (HEB.out.nodes.trees.at HDA.out))).mono ?_
            rintro e wz ⟨rfl, hbx⟩
            have HDA := Lib.hid (belowS HDA.out hbx)
            have hS1 := And.intro (cell_grow hbx hS1.1) (And.intro (cell_grow hbx hS1.2.1) (cell_grow hbx hS1.2.2))
            have RI := RI.below hbx RI.lt
            clear hbx
            refine hK.out _ _ hS1 (fun _ => ?_)
            clear hK
            refine KeptAny.take (i := 5) (v := ?_) (by kernel_rfl) rfl rfl (by kernel_rfl) (by kernel_rfl) (by kernel_rfl) (fun _ _ _ h => h) (by kernel_rfl) (fun w' hw' => ?_) (fun _ => rfl) hS1 ?_
            rotate_left
            · (obtain ⟨g0, g1, g2⟩ := hw'; go_simp; try with_reducible rfl)
            refine KeptAny.take (i := 6) (v := ?_) (by kernel_rfl) rfl rfl (by kernel_rfl) (by kernel_rfl) (by kernel_rfl) (fun _ _ _ h => h) (by kernel_rfl) (fun w' hw' => ?_) (fun _ => rfl) hS1 ?_
            rotate_left
            · (obtain ⟨g0, g1, g2⟩ := hw'; go_simp; try with_reducible rfl)
            refine KeptAny.take (i := 7) (v := ?_) (by kernel_rfl) rfl rfl (by kernel_rfl) (by kernel_rfl) (by kernel_rfl) (fun _ _ _ h => h) (by kernel_rfl) (fun w' hw' => ?_) (fun _ => rfl) hS1 ?_
            rotate_left
            · (obtain ⟨g0, g1, g2⟩ := hw'; go_simp; try with_reducible rfl)
            have q0 := RI.cell (i := 0) (v := .int .i64 0) (by rfl)
            have q1 := RI.cell (i := 1) (v := .string ⟨#[]⟩) (by rfl)
            have q2 := RI.cell (i := 2) (v := .int .i64 0) (by rfl)
            have qf : ∀ k, (wz).frozen? ⟨wI.heap.size, k, none⟩ = false := fun k => RI.frozen k
            have RI3 := ((RI.set 0 (.int .i64 x.kind)).set 1 (.string x.name)).set 2 (.int .i64 x.scope)
            have hwb : wB.heap.size ≤ wI.heap.size := by have := HD.out.size; simpa using this
            have HD3 := Lib.hid (((HDA.out.setCell (p := ⟨wI.heap.size, 0, none⟩) hwb (.int .i64 x.kind)).setCell (p := ⟨wI.heap.size, 1, none⟩) hwb (.string x.name)).setCell (p := ⟨wI.heap.size, 2, none⟩) hwb (.int .i64 x.scope))
            have r3 := (RB1.out.below HD3.out RB1.out.lt).cell (i := 0) (v := .slice ov ss.length cv) (by rfl)
            have hS3 := And.intro r3 (And.intro ((((setCell_farK (show bl ≠ wI.heap.size from HBL.out wI.heap.size (by first | exact Nat.le_refl _ | exact HIZ.out | simp)) (.int .i64 x.kind) (.string x.name) (.int .i64 x.scope)).trans hS1.2.1))) ((setCell_farK (show bl ≠ wI.heap.size from HBL.out _ (by first | exact Nat.le_refl _ | exact HIZ.out | simp)) (.int .i64 x.kind) (.string x.name) (.int .i64 x.scope)).trans hS1.2.2))
            refine KeptAny.one (i := 9) (by kernel_rfl) rfl (by kernel_rfl) (fun K hK => ?_)
            go_simp
            refine hK.out _ _ hS3 (fun _ => ?_)
            clear hK
            refine KeptAny.one (i := 10) (by kernel_rfl) rfl (by kernel_rfl) (fun K hK => ?_)
            go_simp
            refine hK.out _ _ hS3 (fun _ => ?_)
            clear hK
            refine KeptAny.done (by kernel_rfl) ?_ _
            have RI3 := Lib.hid RI3
            clear q0 q1 q2 qf hS1 hS3 r3 RI
            generalize hnI : wI.heap.size = nI at *
            generalize hW4 : ((wz.setCell ⟨nI, 0, none⟩ (.int .i64 x.kind)).setCell ⟨nI, 1, none⟩ (.string x.name)).setCell ⟨nI, 2, none⟩ (.int .i64 x.scope) = W4 at *
            obtain ⟨hsc | ⟨m2, hsc, hm2⟩, hysc⟩ := HSC.out
            · rw [if_pos hsc] at hysc
              subst hysc
              have c2 := RI3.out.cell (i := 2) (v := .int .i64 x.scope) (by rfl)
              rw [hsc] at c2
              go_wp2_with fail
              refine (list_selfF ([] : List (Int × Int)) (some ⟨wy.heap.size, 0, none⟩) o1 0 c1 _ (by simp) (.inl rfl) (A1b.out.below HD3.out)).mono ?_
              rintro e w9 ⟨rfl, hb9⟩
              have XE := Lib.hid (belowS HB.out (belowS HD3.out hb9))
              clear hb9
              go_wp2
              go_ret
              exact ⟨rfl, XE.out⟩
            · have c2 := RI3.out.cell (i := 2) (v := .int .i64 x.scope) (by rfl)
              rw [hsc] at c2
              rw [if_neg (by rw [hsc]; omega), hsc] at hysc
              have HYS := Lib.hid hysc
              have HM2 := Lib.hid hm2
              have hge : (0 : Int) ≤ (m2 : Int) := Int.natCast_nonneg m2
              have r10 := (RB1.out.below HD3.out RB1.out.lt).cell (i := 0) (v := .slice ov ss.length cv) (by rfl)
              have hsub : IntKind.i64.wrap ((P.size : Int) - 1) = (m : Int) := by have := HM.out; rw [IntWalk.i64_in _ (by omega)]; omega
              have hsl := HSB.out
              clear hysc hm2 hsc
              go_upto_region 26 with (fail)
              refine wp_region_kept (S := fun w' => w'.cell? ⟨w1.heap.size, 0, none⟩ = some (.slice ov ss.length cv) ∧ w'.cell? ⟨nI, 2, none⟩ = some (.int .i64 (m2 : Int))) 99 (by kernel_rfl) ?_
              have hS0 := And.intro (cell_drew r10) (cell_drew c2)
              have HD := Lib.hid (belowS HD3.out ((Below.refl W4.heap.size W4).drew))
              clear r10 c2
              refine KeptAny.take (i := 0) (v := ?_) (by kernel_rfl) rfl rfl (by kernel_rfl) (by kernel_rfl) (by kernel_rfl) (fun _ _ _ h => h) (by kernel_rfl) (fun w' hw' => ?_) (fun _ => rfl) hS0 ?_
              rotate_left
              · (obtain ⟨g0, g1⟩ := hw'; go_simp; try with_reducible rfl)
              refine KeptAny.take (i := 1) (v := ?_) (by kernel_rfl) rfl rfl (by kernel_rfl) (by kernel_rfl) (by kernel_rfl) (fun _ _ _ h => h) (by kernel_rfl) (fun w' hw' => ?_) (fun _ => rfl) hS0 ?_
              rotate_left
              · (obtain ⟨g0, g1⟩ := hw'; go_simp; try with_reducible rfl)
              refine KeptAny.take (i := 2) (v := ?_) (by kernel_rfl) rfl rfl (by kernel_rfl) (by kernel_rfl) (by kernel_rfl) (fun _ _ _ h => h) (by kernel_rfl) (fun w' hw' => ?_) (fun _ => rfl) hS0 ?_
              rotate_left
              · (obtain ⟨g0, g1⟩ := hw'; go_simp; try with_reducible rfl)
              refine KeptAny.take (i := 3) (v := ?_) (by kernel_rfl) rfl rfl (by kernel_rfl) (by kernel_rfl) (by kernel_rfl) (fun _ _ _ h => h) (by kernel_rfl) (fun w' hw' => ?_) (fun _ => rfl) hS0 ?_
              rotate_left
              · (obtain ⟨g0, g1⟩ := hw'; go_simp; try with_reducible rfl)
              refine KeptAny.take (i := 4) (v := ?_) (by kernel_rfl) rfl rfl (by kernel_rfl) (by kernel_rfl) (by kernel_rfl) (fun _ _ _ h => h) (by kernel_rfl) (fun w' hw' => ?_) (fun _ => rfl) hS0 ?_
              rotate_left
              · (obtain ⟨g0, g1⟩ := hw'; go_simp; try with_reducible rfl)
              refine KeptAny.take (i := 5) (v := ?_) (by kernel_rfl) rfl rfl (by kernel_rfl) (by kernel_rfl) (by kernel_rfl) (fun _ _ _ h => h) (by kernel_rfl) (fun w' hw' => ?_) (fun _ => rfl) hS0 ?_
              rotate_left
              · (obtain ⟨g0, g1⟩ := hw'; go_simp; try with_reducible rfl)
              refine KeptAny.take (i := 6) (v := .int .i64 (m : Int)) (by kernel_rfl) rfl rfl (by kernel_rfl) (by kernel_rfl) (by kernel_rfl) (fun _ _ _ h => h) (by kernel_rfl) (fun w' hw' => ?_) (fun _ => rfl) hS0 ?_
              · (go_simp)
              refine KeptAny.take (i := 7) (v := .string (P.extract m P.size)) (by kernel_rfl) rfl rfl (by kernel_rfl) (by kernel_rfl) (by kernel_rfl) (fun _ _ _ h => h) (by kernel_rfl) (fun w' hw' => ?_) (fun _ => rfl) hS0 ?_
              · (have hq := hsl w'; go_simp; try exact hq)
              clear hsl hsub
              refine KeptAny.one (i := 8) (by kernel_rfl) rfl (by kernel_rfl) (fun K hK => ?_)
              go_simp
              refine ⟨trivial, ?_⟩
              refine ((callsIn_wide (n := 5)).2 (implOwn_any ss HF.out ov cv (m2 : Int) (P.extract m P.size) _ (HC1.out.below HD.out (Nat.le_refl _)) (HEB.out.at HD.out))).mono ?_
              intro e wz2 hgot
              obtain ⟨o5, c5, zs, ok5, rfl, hv5, ha5, -, hbx⟩ := hgot.val
              obtain rfl : zs = ys := by
                rcases hv5 with ⟨h1, _⟩ | ⟨_, h2, _⟩
                · exact absurd ⟨⟨HOK.out.1.1.1, by omega, by have := HM2.out; omega⟩, HL.out.2.1⟩ h1
                · rw [h2, HYS.out]
              have A5 := Lib.hid ha5
              have HD := Lib.hid (belowS HD.out hbx)
              have A1x := A1b.out.below HD.out
              have hS0 := And.intro (cell_grow hbx hS0.1) (cell_grow hbx hS0.2)
              clear hgot hv5 ha5 hbx A1x
              refine hK.out _ _ hS0 (fun _ => ?_)
              clear hK
              refine KeptAny.take (i := 9) (v := ?_) (by kernel_rfl) rfl rfl (by kernel_rfl) (by kernel_rfl) (by kernel_rfl) (fun _ _ _ h => h) (by kernel_rfl) (fun w' hw' => ?_) (fun _ => rfl) hS0 ?_
              rotate_left
              · (obtain ⟨g0, g1⟩ := hw'; go_simp; try with_reducible rfl)
              refine KeptAny.take (i := 10) (v := ?_) (by kernel_rfl) rfl rfl (by kernel_rfl) (by kernel_rfl) (by kernel_rfl) (fun _ _ _ h => h) (by kernel_rfl) (fun w' hw' => ?_) (fun _ => rfl) hS0 ?_
              rotate_left
              · (obtain ⟨g0, g1⟩ := hw'; go_simp; try with_reducible rfl)
              refine KeptAny.take (i := 11) (v := ?_) (by kernel_rfl) rfl rfl (by kernel_rfl) (by kernel_rfl) (by kernel_rfl) (fun _ _ _ h => h) (by kernel_rfl) (fun w' hw' => ?_) (fun _ => rfl) hS0 ?_
              rotate_left
              · (obtain ⟨g0, g1⟩ := hw'; go_simp; try with_reducible rfl)
              refine KeptAny.one (i := 12) (by kernel_rfl) rfl (by kernel_rfl) (fun K hK => ?_)
              go_simp
              refine hK.out _ _ hS0 (fun _ => ?_)
              clear hK
              refine KeptAny.done (by kernel_rfl) ?_ _
              clear hS0
              go_wp2_with fail
              refine (list_selfF zs o5 o1 c5 c1 _ (by omega) A5.out (A1b.out.below HD.out)).mono ?_
              rintro e w9 ⟨rfl, hb9⟩
              have XE := Lib.hid (belowS HB.out (belowS HD.out hb9))
              clear hb9
              go_wp2
              go_ret
              exact ⟨rfl, XE.out⟩
        · have hb11 : ((bs.length : Int) == 1) = false := by rw [beq_eq_false_iff_ne]; omega
          have hy0 : ys = [] := by rw [HBS.out.1]; unfold fpStep; rw [if_pos (aloneP_not hb1)]
          subst hy0
          clear hb1
          go_wp2_with fail
          refine (list_selfF ([] : List (Int × Int)) (some ⟨wy.heap.size, 0, none⟩) o1 0 c1 _ (by simp) (.inl rfl) (A1b.out.below HDI.out)).mono ?_
          rintro e w9 ⟨rfl, hb9⟩
          have XE := Lib.hid (belowS HB.out (belowS HDI.out hb9))
          clear hb9
          go_wp2
          go_ret
          exact ⟨rfl, XE.out⟩
end Go.Proofs.YtjogfagjcpcihaaGreatDoor
