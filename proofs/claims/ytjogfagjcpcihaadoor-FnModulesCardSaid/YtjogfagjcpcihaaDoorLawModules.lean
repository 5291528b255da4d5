/-
  The walk of the law FnModules: at every argument it returns true, and only new memory is written. Conditions: the argument's memory holds bytes; the package-level errors hold errors.
-/
import Derived.Test.YtjogfagjcpcihaaDoorJB
import Derived.Test.YtjogfagjcpcihaaDoorWBlocks
import Derived.Test.YtjogfagjcpcihaaDoorJD
import Derived.Test.YtjogfagjcpcihaaDoorWImplPath
import Derived.Test.YtjogfagjcpcihaaDoorWDraws2
import Derived.Test.YtjogfagjcpcihaaDoorWSame
import Derived.Test.YtjogfagjcpcihaaDoorJC
import Derived.Test.YtjogfagjcpcihaaDoorChainMore
import Derived.BigQuiet
import Derived.ProofKit
import Derived.OpenShut
namespace Go.Proofs.YtjogfagjcpcihaaDoor
open Go Go.RowKit Sg
theorem sgSame_self2 (ps : List Int) (oa ob : Option Addr) (ca cb : Nat) (w : World) (hn : ps.length ≤ 1000000) (ha : HoldsInts w oa ps) (hb : HoldsInts w ob ps) :
    Calls Tryd.prog 19 #[.slice oa ps.length ca, .slice ob ps.length cb] w fun e w' => e = .returned (.bool true) ∧ Below w.heap.size w w' :=
  (sgSame_any ps ps oa ob ca cb w hn hn ha hb).mono (by rintro e w' ⟨t, rfl, ht, hb⟩; exact ⟨by rw [ht.2 rfl], hb⟩)
theorem placed_sc {ss : List Sc} {q : Nat × Nat × It} (hq : q ∈ placed 0 ss) : ∃ s, ss[q.1]? = some s ∧ s.items[q.2.1]? = some q.2.2 := by
  obtain ⟨s, _, h1, h2⟩ := mem_placed.1 hq
  exact ⟨s, by simpa using h1, h2⟩
/-- The module of a scope stands in its parent. -/
theorem module_par {ss : List Sc} (hv : Valid ss) {s : Nat} {q : Nat × Nat × It} (h : moduleP ss (s : Int) = some q) : ∃ c, ss[s]? = some c ∧ c.parent = (q.1 : Int) ∧ q.1 < s := by
  obtain ⟨hq, _, hs⟩ := moduleP_some h
  have h1 : (q.1, q.2.2) ∈ flat 0 ss := by rw [← placed_flat]; exact List.mem_map.2 ⟨q, hq, rfl⟩
  have h2 := (hv.items.1 _ h1).2
  unfold modB at h2
  have h0 : (q.2.2.scope == -1) = false := by rw [hs]; simp
  simp only [h0, Bool.false_or, Bool.and_eq_true] at h2
  obtain ⟨h3, h4⟩ := h2
  unfold inB at h3
  simp only [Bool.and_eq_true, decide_eq_true_eq] at h3
  rw [hs] at h3 h4
  simp only [Int.toNat_natCast] at h4
  cases hc : ss[s]? with
  | none => rw [hc] at h4; simp at h4
  | some c =>
    rw [hc] at h4
    simp only [Option.map_some, beq_iff_eq, Option.some.injEq] at h4
    exact ⟨c, rfl, h4, by omega⟩
theorem module_zero {ss : List Sc} (hv : Valid ss) : moduleP ss ((0 : Nat) : Int) = none := by
  cases h : moduleP ss ((0 : Nat) : Int) with
  | none => rfl
  | some q => obtain ⟨c, _, _, h3⟩ := module_par hv h; omega
theorem pathFold (ss : List Sc) : ∀ (l : List Nat) (out : ByteArray), l.foldl (pathStep ss) out = pathF ss l ++ out
  | [], out => by
    show out = ByteArray.empty ++ out
    rw [ByteArray.empty_append]
  | s :: r, out => by
    have h1 : pathStep ss out s = pathStep ss ⟨#[]⟩ s ++ out := by
      unfold pathStep
      split
      · show _ = _ ++ ByteArray.empty ++ _
        rw [ByteArray.append_empty]
      · show out = ByteArray.empty ++ out
        rw [ByteArray.empty_append]
    have h2 := pathFold ss r (pathStep ss ⟨#[]⟩ s)
    show r.foldl (pathStep ss) (pathStep ss out s) = r.foldl (pathStep ss) (pathStep ss ⟨#[]⟩ s) ++ out
    rw [pathFold ss r, h2, h1, ByteArray.append_assoc]
theorem pathF_cons (ss : List Sc) (s : Nat) (l : List Nat) : pathF ss (s :: l) = pathF ss l ++ pathStep ss ⟨#[]⟩ s := pathFold ss l _
theorem take_next_mem {l : List Nat} {j m s : Nat} (h : l[j]? = some m) : decide (s ∈ l.take (j + 1)) = (decide (s ∈ l.take j) || ((m : Int) == (s : Int))) := by
  rw [List.take_add_one, h]
  simp only [Option.toList_some, List.mem_append, List.mem_singleton]
  rw [Bool.eq_iff_iff]
  simp only [decide_eq_true_iff, Bool.or_eq_true, beq_iff_eq]
  constructor
  · rintro (h1 | h1)
    · exact .inl h1
    · exact .inr (by omega)
  · rintro (h1 | h1)
    · exact .inl h1
    · exact .inr (by omega)
set_option maxRecDepth 100000 in
set_option maxHeartbeats 8000000 in
theorem lawModules {w : World} {oa : Option Addr} {len cap : Nat} (h : HoldsBytes w oa len) (hlc : len ≤ cap) (hE : NodeErrs w) :
    Calls Tryd.prog 3 #[.slice oa len cap] w fun e w' => e = .returned (.bool true) ∧ Below w.heap.size w w' := by
  by_cases hn : (1048576 : Int) < (len : Int)
  · clear h hE
    go_enter Tryd.func3, Tryd.ntmps3
    go_wp2
    go_ret
    exact ⟨rfl, Below.refl _ _⟩
  · have C := Lib.hid (drawBlocksOf_any h (by omega) hlc)
    have HE := Lib.hid hE
    clear h hE hlc
    go_enter Tryd.func3, Tryd.ntmps3
    go_wp2_with fail
    refine C.out.mono ?_
    rintro e w1 ⟨ss, ov, cv, s, rfl, hh, hl, hsI, hb1⟩
    have HF := Lib.hid (hl.fair (by omega))
    have hbA := (Below.refl w1.heap.size w1).alloc (Nat.le_refl _) (.cells #[.slice ov ss.length cv] 25)
    have HA := Lib.hid (belowS hb1 hbA)
    have HC := Lib.hid (hh.below hbA (Nat.le_refl _))
    have RB := Lib.hid (Row.new w1 [.slice ov ss.length cv] 25)
    have HEA := Lib.hid (HE.out.at HA.out)
    clear hh hl hsI hb1 hbA
    go_wp2_with fail
    refine (implBlocks_any ss HF.out ov cv s _ HC.out HEA.out).mono ?_
    intro e w2 hgot
    obtain ⟨o1, c1, xs, b, rfl, hv1, ha1, -, hb2⟩ := hgot.val
    have V1 := Lib.hid hv1
    have A1 := Lib.hid ha1
    have X2 := Lib.hid hb2
    have r2 := (RB.out.below X2.out RB.out.lt).cell (i := 0) (v := .slice ov ss.length cv) (by rfl)
    clear hgot hv1 ha1 hb2
    go_wp2_with fail
    refine (specBlocks_any ss HF.out.fits ov cv s _ (HC.out.below X2.out (Nat.le_refl _))).mono ?_
    intro e w3 hgot
    obtain ⟨o2, c2, ys, b', rfl, hv2, ha2, hb3⟩ := hgot.val
    obtain ⟨rfl, rfl⟩ := hv2.same V1.out
    have A2 := Lib.hid ha2
    have A1a := Lib.hid (A1.out.below hb3)
    have X3 := Lib.hid (belowS X2.out hb3)
    have r3 := (RB.out.below X3.out RB.out.lt).cell (i := 0) (v := .slice ov ss.length cv) (by rfl)
    clear hgot hv2 ha2 hb3 r2
    go_wp2_with fail
    refine (implModule_any ss HF.out ov cv s _ (HC.out.below X3.out (Nat.le_refl _)) (HEA.out.at X3.out)).mono ?_
    rintro e w4 ⟨pa, pb, ok, rfl, hm, hb4⟩
    have hbM := (Below.refl w4.heap.size w4).alloc (Nat.le_refl _) (.cells #[.int .i64 pa, .int .i64 pb] 32)
    have M := Lib.hid hm
    have A1b := Lib.hid (A1a.out.below (belowS hb4 hbM))
    have A2b := Lib.hid (A2.out.below (belowS hb4 hbM))
    have X4 := Lib.hid (belowS X3.out (belowS hb4 hbM))
    have RM := Lib.hid (Row.new w4 [.int .i64 pa, .int .i64 pb] 32)
    have r4 := (RB.out.below X4.out RB.out.lt).cell (i := 0) (v := .slice ov ss.length cv) (by rfl)
    clear hm hb4 hbM r3
    go_wp2_with fail
    refine (specModule_any ss HF.out.fits ov cv s _ (HC.out.below X4.out (Nat.le_refl _))).mono ?_
    rintro e w5 ⟨pa', pb', ok', rfl, hm, hb5⟩
    obtain ⟨rfl, rfl, rfl⟩ := hm.same M.out
    have hbM := (Below.refl w5.heap.size w5).alloc (Nat.le_refl _) (.cells #[.int .i64 pa', .int .i64 pb'] 32)
    have A1c := Lib.hid (A1b.out.below (belowS hb5 hbM))
    have A2c := Lib.hid (A2b.out.below (belowS hb5 hbM))
    have X5 := Lib.hid (belowS X4.out (belowS hb5 hbM))
    have RM5 := Lib.hid (RM.out.below (belowS hb5 hbM) RM.out.lt)
    have RN := Lib.hid (Row.new w5 [.int .i64 pa', .int .i64 pb'] 32)
    have r5 := (RB.out.below X5.out RB.out.lt).cell (i := 0) (v := .slice ov ss.length cv) (by rfl)
    clear hm hb5 hbM r4
    go_wp2_with fail
    refine (implPath_any ss HF.out ov cv s _ (HC.out.below X5.out (Nat.le_refl _)) (HEA.out.at X5.out)).mono ?_
    rintro e w6 ⟨str, f, rfl, hp, hb6⟩
    have PR := Lib.hid hp
    have A1d := Lib.hid (A1c.out.below hb6)
    have A2d := Lib.hid (A2c.out.below hb6)
    have X6 := Lib.hid (belowS X5.out hb6)
    have RM6 := Lib.hid (RM5.out.below hb6 RM5.out.lt)
    have RN6 := Lib.hid (RN.out.below hb6 RN.out.lt)
    have r6 := (RB.out.below X6.out RB.out.lt).cell (i := 0) (v := .slice ov ss.length cv) (by rfl)
    clear hp hb6 r5
    go_wp2_with fail
    refine (specPath_any ss HF.out.fits ov cv s _ (HC.out.below X6.out (Nat.le_refl _))).mono ?_
    rintro e w7 ⟨str', f', rfl, hp, hb7⟩
    obtain ⟨rfl, rfl⟩ := hp.same PR.out
    have A1e := Lib.hid (A1d.out.below hb7)
    have A2e := Lib.hid (A2d.out.below hb7)
    have X7 := Lib.hid (belowS X6.out hb7)
    have RM7 := Lib.hid (RM6.out.below hb7 RM6.out.lt)
    have RN7 := Lib.hid (RN6.out.below hb7 RN6.out.lt)
    have hbl : ys.length ≤ 1000 := by
      rcases V1.out with ⟨_, rfl, _⟩ | ⟨hok, rfl, _⟩
      · simp
      · have h1 := blocksUp_length ss s.toNat ss.length
        have h2 := hok.1.count.2
        rw [natInts_length, ← blocksUp_all]
        omega
    have hbb : (b' == b') = true := by simp
    have hkk : (ok' == ok') = true := by simp
    have hbn : (b' != b') = false := by simp
    have hkn : (ok' != ok') = false := by simp
    have hss : (str'.toList != str'.toList) = false := by simp
    have hse : (str'.toList == str'.toList) = true := by simp
    clear hp hb7 r6
    go_wp2_with fail
    refine (sgSame_self2 ys o1 o2 c1 c2 _ (by omega) A1e.out A2e.out).mono ?_
    rintro e w8 ⟨rfl, hb8⟩
    have X8 := Lib.hid (belowS X7.out hb8)
    have RM8 := Lib.hid (RM7.out.below hb8 RM7.out.lt)
    have RN8 := Lib.hid (RN7.out.below hb8 RN7.out.lt)
    have A1f := Lib.hid (A1e.out.below hb8)
    have A2f := Lib.hid (A2e.out.below hb8)
    have m0 := RM8.out.cell (i := 0) (v := .int .i64 pa') (by rfl)
    have m1 := RM8.out.cell (i := 1) (v := .int .i64 pb') (by rfl)
    have n0 := RN8.out.cell (i := 0) (v := .int .i64 pa') (by rfl)
    have n1 := RN8.out.cell (i := 1) (v := .int .i64 pb') (by rfl)
    have q8 := (RB.out.below X8.out RB.out.lt).cell (i := 0) (v := .slice ov ss.length cv) (by rfl)
    clear hb8
    by_cases hS : HasScope ss s
    · obtain ⟨s', rfl⟩ : ∃ s' : Nat, s = (s' : Int) := ⟨s.toNat, by have := hS.2.1; omega⟩
      obtain ⟨hy, rfl⟩ : ys = natInts (blocksP ss s') ∧ b' = true := by
        rcases V1.out with ⟨h1, _⟩ | ⟨_, h2, h3⟩
        · exact absurd hS h1
        · exact ⟨by rw [h2, Int.toNat_natCast], h3⟩
      have MR : Hid (modR ss (s' : Int) pa' pb' ok') := Lib.hid (by
        rcases M.out with ⟨h1, _⟩ | ⟨_, h2⟩
        · exact absurd hS h1
        · exact h2)
      obtain ⟨hst, rfl⟩ : str' = pathF ss (chainP ss s') ∧ f' = true := by
        rcases PR.out with ⟨h1, _⟩ | ⟨_, h2, h3⟩
        · exact absurd hS h1
        · exact ⟨by rw [h2, Int.toNat_natCast], h3⟩
      have HST := Lib.hid hst
      have HS := Lib.hid hS
      have HSL : Hid (s' < ss.length) := Lib.hid (by have := hS.2.2; omega)
      have HEND : Hid (∀ w', Below w8.heap.size w8 w' → Below w.heap.size w w') := Lib.hid (fun w' hb => belowS HA.out (belowS X8.out hb))
      clear hS V1 M PR hy hst
      by_cases hz : s' = 0
      · subst hz
        obtain rfl : ok' = false := by
          rcases MR.out with ⟨_, _, _, h⟩ | ⟨q, h1, _⟩
          · exact h
          · rw [module_zero HS.out.1] at h1; cases h1
        clear MR hbl
        go_wp2
        go_quiet (fail)
        go_wp2
        go_ret
        exact ⟨rfl, HEND.out _ (below_drewN (Below.refl _ _) _)⟩
      · obtain ⟨c, hc⟩ : ∃ c, ss[s']? = some c := ⟨_, List.getElem?_eq_getElem HSL.out⟩
        obtain ⟨p, hcp, hlt, hpar⟩ : ∃ p : Nat, c.parent = (p : Int) ∧ p < s' ∧ parP ss s' = some p := by
          rcases HS.out.1.climbs.cases hc with ⟨h0, _⟩ | h
          · exact absurd h0 hz
          · exact h
        have HPS : Hid (HasScope ss (p : Int)) := Lib.hid ⟨HS.out.1, by omega, by have := HSL.out; omega⟩
        obtain ⟨bb, off, rfl, hbb2, hcell⟩ := (HC.out.below X8.out (Nat.le_refl _)).at (by have := HSL.out; omega)
        obtain ⟨oi, ci, a0, -, -⟩ := hcell s' c hc
        rw [hcp] at a0
        have HBLK : Hid (decide (s' ∈ blocksP ss p) = !ok') := Lib.hid (by
          have h1 := modR_none MR.out
          have h2 : decide (s' ∈ blocksP ss p) = isBlock ss p s' := by
            unfold blocksP
            rw [Bool.eq_iff_iff, decide_eq_true_iff, List.mem_filter, List.mem_range]
            exact ⟨fun h => h.2, fun h => ⟨HSL.out, h⟩⟩
          rw [h2]
          unfold isBlock
          rw [h1, hpar]
          simp)
        have HPATH : Hid (str' = pathF ss (chainP ss p) ++ pathStep ss ⟨#[]⟩ s') := Lib.hid (by rw [HST.out, chain_some HS.out.1.climbs hpar, pathF_cons])
        have hs0 : ((s' : Int) == 0) = false := by simp; omega
        have hs1 : (0 : Int) < (s' : Int) := by omega
        have hsi : (s' : Int) < (ss.length : Int) := by have := HSL.out; omega
        have HCC := Lib.hid (And.intro hc hcp)
        have HPP := Lib.hid (And.intro hpar hlt)
        have HZ := Lib.hid hz
        clear hz hc hcp hlt hpar hcell hbb2
        go_upto_region 14 with (fail)
        refine wp_region_kept (S := fun w' => w'.cell? ⟨w1.heap.size, 0, none⟩ = some (.slice (some ⟨bb, off, none⟩) ss.length cv) ∧ w'.cell? ⟨bb, off + s' * 2, none⟩ = some (.int .i64 (p : Int))) 40 (by kernel_rfl) ?_
        have hS0 := And.intro (cell_drew q8) (cell_drew a0)
        refine KeptAny.take (i := 0) (v := ?_) (by kernel_rfl) rfl rfl (by kernel_rfl) (by kernel_rfl) (by kernel_rfl) (fun _ _ _ h => h) (by rfl) (fun w' hw' => ?_) (fun _ => rfl) hS0 ?_
        rotate_left
        · (obtain ⟨g0, g1⟩ := hw'; go_simp; try with_reducible rfl)
        refine KeptAny.take (i := 1) (v := ?_) (by kernel_rfl) rfl rfl (by kernel_rfl) (by kernel_rfl) (by kernel_rfl) (fun _ _ _ h => h) (by rfl) (fun w' hw' => ?_) (fun _ => rfl) hS0 ?_
        rotate_left
        · (obtain ⟨g0, g1⟩ := hw'; go_simp; try with_reducible rfl)
        refine KeptAny.take (i := 2) (v := ?_) (by kernel_rfl) rfl rfl (by kernel_rfl) (by kernel_rfl) (by kernel_rfl) (fun _ _ _ h => h) (by rfl) (fun w' hw' => ?_) (fun _ => rfl) hS0 ?_
        rotate_left
        · (obtain ⟨g0, g1⟩ := hw'; go_simp; try with_reducible rfl)
        refine KeptAny.take (i := 3) (v := ?_) (by kernel_rfl) rfl rfl (by kernel_rfl) (by kernel_rfl) (by kernel_rfl) (fun _ _ _ h => h) (by rfl) (fun w' hw' => ?_) (fun _ => rfl) hS0 ?_
        rotate_left
        · (obtain ⟨g0, g1⟩ := hw'; go_simp; try with_reducible rfl)
        refine KeptAny.take (i := 4) (v := ?_) (by kernel_rfl) rfl rfl (by kernel_rfl) (by kernel_rfl) (by kernel_rfl) (fun _ _ _ h => h) (by rfl) (fun w' hw' => ?_) (fun _ => rfl) hS0 ?_
        rotate_left
        · (obtain ⟨g0, g1⟩ := hw'; go_simp; try with_reducible rfl)
        refine KeptAny.take (i := 5) (v := ?_) (by kernel_rfl) rfl rfl (by kernel_rfl) (by kernel_rfl) (by kernel_rfl) (fun _ _ _ h => h) (by rfl) (fun w' hw' => ?_) (fun _ => rfl) hS0 ?_
        rotate_left
        · (obtain ⟨g0, g1⟩ := hw'; go_simp; try with_reducible rfl)
        refine KeptAny.take (i := 6) (v := ?_) (by kernel_rfl) rfl rfl (by kernel_rfl) (by kernel_rfl) (by kernel_rfl) (fun _ _ _ h => h) (by rfl) (fun w' hw' => ?_) (fun _ => rfl) hS0 ?_
        rotate_left
        · (obtain ⟨g0, g1⟩ := hw'; go_simp; try with_reducible rfl)
        refine KeptAny.one (i := 7) (by kernel_rfl) rfl (by rfl) (fun K hK => ?_)
        go_simp
        refine ⟨trivial, ?_⟩
        refine ((callsIn_wide (n := 5)).2 (implBlocks_any ss HF.out (some ⟨bb, off, none⟩) cv (p : Int) _ (HC.out.below X8.out.drew (Nat.le_refl _)) (HEA.out.at X8.out.drew))).mono ?_
        intro e w9 hgot
        obtain ⟨o9, c9, zs, b9, rfl, hv9, ha9, -, hb9⟩ := hgot.val
        obtain rfl : zs = natInts (blocksP ss p) := by
          rcases hv9 with ⟨h1, _⟩ | ⟨_, h2, _⟩
          · exact absurd HPS.out h1
          · rw [h2, Int.toNat_natCast]
        have I9 := Lib.hid ha9
        have X9 := Lib.hid (show Below w8.heap.size w8 w9 from ((Below.refl _ _).drew).trans hb9)
        have hS4 := And.intro (cell_grow hb9 hS0.1) (cell_grow hb9 hS0.2)
        clear hgot hv9 ha9 hb9
        refine hK.out _ _ hS4 (fun _ => ?_)
        clear hK
        refine KeptAny.take (i := 8) (v := ?_) (by kernel_rfl) rfl rfl (by kernel_rfl) (by kernel_rfl) (by kernel_rfl) (fun _ _ _ h => h) (by rfl) (fun w' hw' => ?_) (fun _ => rfl) hS4 ?_
        rotate_left
        · (obtain ⟨g0, g1⟩ := hw'; go_simp; try with_reducible rfl)
        refine KeptAny.take (i := 9) (v := ?_) (by kernel_rfl) rfl rfl (by kernel_rfl) (by kernel_rfl) (by kernel_rfl) (fun _ _ _ h => h) (by rfl) (fun w' hw' => ?_) (fun _ => rfl) hS4 ?_
        rotate_left
        · (obtain ⟨g0, g1⟩ := hw'; go_simp; try with_reducible rfl)
        refine KeptAny.take (i := 10) (v := ?_) (by kernel_rfl) rfl rfl (by kernel_rfl) (by kernel_rfl) (by kernel_rfl) (fun _ _ _ h => h) (by rfl) (fun w' hw' => ?_) (fun _ => rfl) hS4 ?_
        rotate_left
        · (obtain ⟨g0, g1⟩ := hw'; go_simp; try with_reducible rfl)
        refine KeptAny.one (i := 11) (by kernel_rfl) rfl (by rfl) (fun K hK => ?_)
        go_simp
        refine hK.out _ _ hS4 (fun _ => ?_)
        clear hK
        refine KeptAny.one (i := 12) (by kernel_rfl) rfl (by rfl) (fun K hK => ?_)
        go_simp
        refine hK.out _ _ hS4 (fun _ => ?_)
        clear hK
        refine KeptAny.done (by kernel_rfl) ?_ _
        have HN9 : Hid ((natInts (blocksP ss p)).length = (blocksP ss p).length) := Lib.hid (natInts_length _)
        have hn9 : (natInts (blocksP ss p)).length ≤ 1000 := by
          have h1 := blocksUp_length ss p ss.length
          have h2 := HS.out.1.count.2
          rw [natInts_length, ← blocksUp_all]
          omega
        clear hS4
        go_wp2
        go_loopw [17, 147] (fun v i wr => ∃ j : Nat, i = .int .i64 j ∧ j ≤ (natInts (blocksP ss p)).length ∧ v = .bool (decide (s' ∈ (blocksP ss p).take j)) ∧ Hid (Below w9.heap.size w9 wr)) (fun _ i _ => (natInts (blocksP ss p)).length - (intOf i).toNat)
        case atStart => exact ⟨0, rfl, Nat.zero_le _, by simp, Lib.hid (Below.refl _ _)⟩
        case round =>
          obtain ⟨j, rfl, hj, rfl, HW⟩ := hrel
          by_cases hlt2 : j < (natInts (blocksP ss p)).length
          · obtain ⟨t, ht⟩ : ∃ t, (blocksP ss p)[j]? = some t := ⟨_, List.getElem?_eq_getElem (by have := HN9.out; omega)⟩
            have htI : (natInts (blocksP ss p))[j]? = some (t : Int) := by unfold natInts; rw [List.getElem?_map, ht]; rfl
            obtain ⟨b2, f2, rfl, hb2, q2⟩ := (I9.out.below HW.out).at (by omega)
            have e1 := q2 j _ htI
            have HNX := Lib.hid (take_next_mem (s := s') ht)
            clear ht htI hb2 q2
            cases hq : decide (s' ∈ (blocksP ss p).take j)
            · have HQ := Lib.hid hq
              clear hq
              go_wp2
              go_roundw
              case rel => exact ⟨j + 1, by go_num, by omega, by rw [HNX.out, HQ.out, Bool.false_or], HW⟩
              case measure => simp only [intOf]; omega
            · have HQ := Lib.hid hq
              clear hq
              go_wp2
              go_roundw
              case rel => exact ⟨j + 1, by go_num, by omega, by rw [HNX.out, HQ.out, Bool.true_or], HW⟩
              case measure => simp only [intOf]; omega
          · obtain rfl : j = (natInts (blocksP ss p)).length := by omega
            have hin : decide (s' ∈ (blocksP ss p).take (natInts (blocksP ss p)).length) = !ok' := by
              rw [HN9.out, List.take_length]
              exact HBLK.out
            rw [hin]
            have XA := Lib.hid (belowS X9.out HW.out)
            have XB := Lib.hid (belowS X8.out XA.out)
            have u8 := (RB.out.below XB.out RB.out.lt).cell (i := 0) (v := .slice (some ⟨bb, off, none⟩) ss.length cv) (by rfl)
            have ua := cell_grow XA.out a0
            have um0 := cell_grow XA.out m0
            have um1 := cell_grow XA.out m1
            have hz0 : w4.heap.size < wr.heap.size := World.block_lt_of_cell? _ _ um0
            clear hin
            go_upto_region 20 with (fail)
            refine wp_region_kept (S := fun w' => w'.cell? ⟨w1.heap.size, 0, none⟩ = some (.slice (some ⟨bb, off, none⟩) ss.length cv) ∧ w'.cell? ⟨bb, off + s' * 2, none⟩ = some (.int .i64 (p : Int))) 40 (by kernel_rfl) ?_
            have hS0 := And.intro (cell_drew u8) (cell_drew ua)
            refine KeptAny.take (i := 0) (v := ?_) (by kernel_rfl) rfl rfl (by kernel_rfl) (by kernel_rfl) (by kernel_rfl) (fun _ _ _ h => h) (by rfl) (fun w' hw' => ?_) (fun _ => rfl) hS0 ?_
            rotate_left
            · (obtain ⟨g0, g1⟩ := hw'; go_simp; try with_reducible rfl)
            refine KeptAny.take (i := 1) (v := ?_) (by kernel_rfl) rfl rfl (by kernel_rfl) (by kernel_rfl) (by kernel_rfl) (fun _ _ _ h => h) (by rfl) (fun w' hw' => ?_) (fun _ => rfl) hS0 ?_
            rotate_left
            · (obtain ⟨g0, g1⟩ := hw'; go_simp; try with_reducible rfl)
            refine KeptAny.take (i := 2) (v := ?_) (by kernel_rfl) rfl rfl (by kernel_rfl) (by kernel_rfl) (by kernel_rfl) (fun _ _ _ h => h) (by rfl) (fun w' hw' => ?_) (fun _ => rfl) hS0 ?_
            rotate_left
            · (obtain ⟨g0, g1⟩ := hw'; go_simp; try with_reducible rfl)
            refine KeptAny.take (i := 3) (v := ?_) (by kernel_rfl) rfl rfl (by kernel_rfl) (by kernel_rfl) (by kernel_rfl) (fun _ _ _ h => h) (by rfl) (fun w' hw' => ?_) (fun _ => rfl) hS0 ?_
            rotate_left
            · (obtain ⟨g0, g1⟩ := hw'; go_simp; try with_reducible rfl)
            refine KeptAny.take (i := 4) (v := ?_) (by kernel_rfl) rfl rfl (by kernel_rfl) (by kernel_rfl) (by kernel_rfl) (fun _ _ _ h => h) (by rfl) (fun w' hw' => ?_) (fun _ => rfl) hS0 ?_
            rotate_left
            · (obtain ⟨g0, g1⟩ := hw'; go_simp; try with_reducible rfl)
            refine KeptAny.take (i := 5) (v := ?_) (by kernel_rfl) rfl rfl (by kernel_rfl) (by kernel_rfl) (by kernel_rfl) (fun _ _ _ h => h) (by rfl) (fun w' hw' => ?_) (fun _ => rfl) hS0 ?_
            rotate_left
            · (obtain ⟨g0, g1⟩ := hw'; go_simp; try with_reducible rfl)
            refine KeptAny.take (i := 6) (v := ?_) (by kernel_rfl) rfl rfl (by kernel_rfl) (by kernel_rfl) (by kernel_rfl) (fun _ _ _ h => h) (by rfl) (fun w' hw' => ?_) (fun _ => rfl) hS0 ?_
            rotate_left
            · (obtain ⟨g0, g1⟩ := hw'; go_simp; try with_reducible rfl)
            refine KeptAny.one (i := 7) (by kernel_rfl) rfl (by rfl) (fun K hK => ?_)
            go_simp
            refine ⟨trivial, ?_⟩
            refine ((callsIn_wide (n := 5)).2 (implPath_any ss HF.out (some ⟨bb, off, none⟩) cv (p : Int) _ (HC.out.below XB.out.drew (Nat.le_refl _)) (HEA.out.at XB.out.drew))).mono ?_
            rintro e wP ⟨outer, g', rfl, hp, hbP⟩
            have HOUT : Hid (outer = pathF ss (chainP ss p)) := Lib.hid (by
              rcases hp with ⟨h1, _⟩ | ⟨_, h2, _⟩
              · exact absurd HPS.out h1
              · rw [h2, Int.toNat_natCast])
            have XP := Lib.hid (show Below wr.heap.size wr wP from ((Below.refl _ _).drew).trans hbP)
            have hS4 := And.intro (cell_grow hbP hS0.1) (cell_grow hbP hS0.2)
            clear hp hbP
            refine hK.out _ _ hS4 (fun _ => ?_)
            clear hK
            refine KeptAny.take (i := 8) (v := ?_) (by kernel_rfl) rfl rfl (by kernel_rfl) (by kernel_rfl) (by kernel_rfl) (fun _ _ _ h => h) (by rfl) (fun w' hw' => ?_) (fun _ => rfl) hS4 ?_
            rotate_left
            · (obtain ⟨g0, g1⟩ := hw'; go_simp; try with_reducible rfl)
            refine KeptAny.take (i := 9) (v := ?_) (by kernel_rfl) rfl rfl (by kernel_rfl) (by kernel_rfl) (by kernel_rfl) (fun _ _ _ h => h) (by rfl) (fun w' hw' => ?_) (fun _ => rfl) hS4 ?_
            rotate_left
            · (obtain ⟨g0, g1⟩ := hw'; go_simp; try with_reducible rfl)
            refine KeptAny.take (i := 10) (v := ?_) (by kernel_rfl) rfl rfl (by kernel_rfl) (by kernel_rfl) (by kernel_rfl) (fun _ _ _ h => h) (by rfl) (fun w' hw' => ?_) (fun _ => rfl) hS4 ?_
            rotate_left
            · (obtain ⟨g0, g1⟩ := hw'; go_simp; try with_reducible rfl)
            refine KeptAny.one (i := 11) (by kernel_rfl) rfl (by rfl) (fun K hK => ?_)
            go_simp
            refine hK.out _ _ hS4 (fun _ => ?_)
            clear hK
            refine KeptAny.one (i := 12) (by kernel_rfl) rfl (by rfl) (fun K hK => ?_)
            go_simp
            refine hK.out _ _ hS4 (fun _ => ?_)
            clear hK
            refine KeptAny.done (by kernel_rfl) ?_ _
            have XQ := Lib.hid (belowS XB.out XP.out)
            have XR := Lib.hid (belowS XA.out XP.out)
            have v8 := (RB.out.below XQ.out RB.out.lt).cell (i := 0) (v := .slice (some ⟨bb, off, none⟩) ss.length cv) (by rfl)
            have va := cell_grow XP.out ua
            have vm0 := cell_grow XP.out um0
            have vm1 := cell_grow XP.out um1
            have hsz : outer.size ≤ 1000 := by
              rw [HOUT.out]
              have h1 := pathF_size HS.out.1 (chainP ss p)
              have h2 := chain_length HS.out.1.climbs p
              have := HSL.out
              have := HS.out.1.count.2
              have := HPP.out.2
              omega
            clear hS4
            cases ok'
            · have HSTR : Hid (str' = outer ++ ⟨#[]⟩) := Lib.hid (by
                rw [HPATH.out, HOUT.out, pathStep_none MR.out])
              have hstr : (str'.toList == (outer ++ (⟨#[]⟩ : ByteArray)).toList) = true := by rw [← HSTR.out]; simp
              have hsum : ¬ 9223372036854775807 < outer.size + (⟨#[]⟩ : ByteArray).size := by show ¬ 9223372036854775807 < outer.size + 0; omega
              go_wp2
              go_quiet (fail)
              go_wp2
              go_ret
              exact ⟨rfl, HEND.out _ (below_drewN XR.out _)⟩
            · obtain ⟨q, hmo, hpa, hpb⟩ : ∃ q, moduleP ss (s' : Int) = some q ∧ pa' = (q.1 : Int) ∧ pb' = (q.2.1 : Int) := by
                rcases MR.out with ⟨_, _, _, h⟩ | ⟨q, h1, h2, h3, _⟩
                · cases h
                · exact ⟨q, h1, h2, h3⟩
              obtain ⟨i, j', x⟩ := q
              dsimp only at hpa hpb
              subst hpa hpb
              have hqp := (moduleP_some hmo).1
              obtain ⟨cc, hcc, hccp, -⟩ := module_par HS.out.1 hmo
              dsimp only at hccp
              have hip : i = p := by
                have h1 := HCC.out.1
                rw [hcc] at h1
                cases h1
                have h2 := HCC.out.2
                omega
              subst hip
              have HIT : Hid (itemAtP ss (i : Int) (j' : Int) = some x) := Lib.hid (by obtain ⟨sq, hsq, hxq⟩ := placed_sc hqp; dsimp only at hsq hxq; rw [itemAtP_nat hsq]; exact hxq)
              have hlt3 := HS.out.1.small.lt hqp
              have HWI : Hid ((Lit.int .i64 (i : Int)).wf = true) := Lib.hid (wf_small hlt3.1)
              have HWJ : Hid ((Lit.int .i64 (j' : Int)).wf = true) := Lib.hid (wf_small hlt3.2)
              have HSTR : Hid (str' = outer ++ x.name) := Lib.hid (by
                rw [HPATH.out, HOUT.out]
                unfold pathStep
                rw [hmo]
                show _ ++ (x.name ++ ByteArray.empty) = _
                rw [ByteArray.append_empty])
              have hxn : x.name.size ≤ 1000 := by
                have h1 := HF.out.fits
                have h2 := item_of HS.out.1 hqp
                unfold itemB at h2
                simp only [Bool.and_eq_true] at h2
                have h3 := nameB_size h2.1.1
                show x.name.size ≤ 1000
                omega
              clear hmo hqp hcc hccp hlt3
              go_wp2_with fail
              refine (implItemAt_any ss HF.out (some ⟨bb, off, none⟩) cv (i : Int) (j' : Int) HWI.out HWJ.out _ (HC.out.below XQ.out (Nat.le_refl _)) (HEA.out.at XQ.out).trees).mono ?_
              rintro e wI ⟨y, oky, rfl, hcase, hbI⟩
              obtain rfl : y = x := by
                rcases hcase with ⟨_, h2, _⟩ | ⟨h2, _⟩
                · rw [HIT.out] at h2
                  exact (Option.some.inj h2).symm
                · exact absurd ⟨HS.out.1, by rw [HIT.out]; rfl⟩ h2
              have hbJ := hbI.trans ((Below.refl wI.heap.size wI).alloc (Nat.le_refl _) (.cells #[.int .i64 y.kind, .string y.name, .int .i64 y.scope] 42) |>.mono hbI.size)
              have XI := Lib.hid (belowS XR.out hbJ)
              have t8 := (RB.out.below (belowS XQ.out hbJ) RB.out.lt).cell (i := 0) (v := .slice (some ⟨bb, off, none⟩) ss.length cv) (by rfl)
              have ta := cell_grow hbJ va
              have tm0 := cell_grow hbJ vm0
              have tm1 := cell_grow hbJ vm1
              have hstr : (str'.toList == (outer ++ y.name).toList) = true := by rw [← HSTR.out]; simp
              have hsum : ¬ 9223372036854775807 < outer.size + y.name.size := by omega
              have hii : ((i : Int) == (i : Int)) = true := by simp
              clear hcase hbI hbJ v8 va vm0 vm1
              unfold itV
              go_wp2
              go_quiet (fail)
              go_wp2
              go_ret
              exact ⟨rfl, HEND.out _ (below_drewN XI.out _)⟩
    · obtain ⟨hy, rfl⟩ : ys = [] ∧ b' = false := by
        rcases V1.out with ⟨_, h2, h3⟩ | ⟨h1, _⟩
        · exact ⟨h2, h3⟩
        · exact absurd h1 hS
      obtain rfl : f' = false := by
        rcases PR.out with ⟨_, _, h3⟩ | ⟨h1, _⟩
        · exact h3
        · exact absurd h1 hS
      clear hS V1 M PR hy
      go_wp2_with fail
      refine (sgSame_self2 ys o1 o2 c1 c2 _ (by omega) A1f.out A2f.out).mono ?_
      rintro e w9 ⟨rfl, hb9⟩
      have XE := Lib.hid (belowS HA.out (belowS X8.out hb9))
      have k0 := cell_grow hb9 m0
      have k1 := cell_grow hb9 m1
      have k2 := cell_grow hb9 n0
      have k3 := cell_grow hb9 n1
      clear hb9 m0 m1 n0 n1
      go_wp2
      go_ret
      exact ⟨rfl, XE.out⟩
end Go.Proofs.YtjogfagjcpcihaaDoor
