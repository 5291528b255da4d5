/-
  The draw of FnOwnNames and the walk of this law: at every code it returns true, and only new memory is written. Condition: the package-level errors hold errors. (genlown.py writes this text.)
-/
import Derived.Test.YtjogfagjcpcihaaDoorWDraws2
import Derived.Test.YtjogfagjcpcihaaDoorWOwnS
import Derived.Test.YtjogfagjcpcihaaDoorWOwnI
import Derived.Test.YtjogfagjcpcihaaDoorJG
import Derived.Test.YtjogfagjcpcihaaDoorJF
import Derived.Test.YtjogfagjcpcihaaDoorWPlsT
import Derived.Test.YtjogfagjcpcihaaDoorJB
import Derived.ChangeSame
import Derived.ProofKit
import Derived.OpenShut
import Derived.Deep.QuietTactic
import Derived.BigQuiet
namespace Go.Proofs.YtjogfagjcpcihaaDoor
open Go Go.RowKit
theorem place_wf {ss : List Sc} (hv : Valid ss) {p : Int × Int} {y : It} (h : itemAtP ss p.1 p.2 = some y) : (Lit.int .i64 p.1).wf = true ∧ (Lit.int .i64 p.2).wf = true := by
  obtain ⟨i, j, h1, h2, hq⟩ := item_placed h
  have hlt := hv.small.lt hq
  dsimp only at hlt
  rw [h1, h2]
  exact ⟨wf_small hlt.1, wf_small hlt.2⟩
/-- An item that is there, as ItemAt hands it back. -/
theorem itemAt_own {ss : List Sc} (hF : Fair ss) (hv : Valid ss) {oa : Option Addr} {cap : Nat} {a b : Int} {x : It} (hx : itemAtP ss a b = some x) (w : World) (hc : HoldsScopes w oa ss) (hE : TreeErrs w) :
    Calls Tryd.prog 20 #[.agg #[.slice oa ss.length cap], .agg #[.int .i64 a, .int .i64 b]] w fun e w' => e = .returned (.tuple #[.agg #[.int .i64 x.kind, .string x.name, .int .i64 x.scope], .bool true]) ∧ Below w.heap.size w w' := by
  obtain ⟨h1, h2⟩ := place_wf hv (p := (a, b)) hx
  refine (implItemAt_any ss hF oa cap a b h1 h2 w hc hE).mono ?_
  rintro e w' ⟨y, ok, rfl, ⟨_, h3, rfl⟩ | ⟨hn, _, _⟩, hb⟩
  · rw [hx] at h3
    cases h3
    exact ⟨rfl, hb⟩
  · exact absurd ⟨hv, by rw [hx]; rfl⟩ hn
/-- The name of the declaration at a place is the letter there. -/
theorem own_at {ss : List Sc} (hv : Valid ss) {k : Nat} {p : Int × Int} (hp : (dclP ss)[k]? = some p) : ∃ x, itemAtP ss p.1 p.2 = some x ∧ x.name = (bT (ownT ss)).extract k (k + 1) ∧ k < (bT (ownT ss)).size := by
  obtain ⟨⟨i, j, x⟩, b, h1, h2, h3, h4, h5⟩ := own_letter hv _ (fun _ h => h) k p hp
  have h6 : (ownT ss)[k]? = some b := h5
  have hk : k < (ownT ss).length := (List.getElem?_eq_some_iff.1 h6).1
  have hkS : k < (bT (ownT ss)).size := by rw [bT_size]; exact hk
  refine ⟨x, by rw [h3]; exact placed_item h1, ?_, hkS⟩
  rw [ext_one hkS]
  unfold nmK
  rw [if_neg (by omega), Int.toNat_natCast, bT_data, h6]
  exact bytes_of h4
def Drawn1 (w : World) (e : Ending) (w' : World) : Prop := ∃ ss ov cv, e = .returned (.agg #[.slice ov (List.length ss) cv]) ∧ HoldsScopes w' ov ss ∧ Lit1 210 ss ∧ Below w.heap.size w w'
set_option maxRecDepth 100000 in
theorem drawOwnNames_any {w : World} {oa : Option Addr} {len cap : Nat} (h : HoldsBytes w oa len) (hl : len ≤ 2 ^ 62) (hlc : len ≤ cap) : Calls Tryd.prog 50 #[.slice oa len cap] w (Drawn1 w) := by
  have hbA := (Below.refl w.heap.size w).alloc (Nat.le_refl _) (.cells #[.slice none 0 0] 25)
  have RA := Lib.hid (Row.new w [.slice none 0 0] 25)
  have C := Lib.hid (open_any (h.below hbA) hl hlc)
  have HBA := Lib.hid hbA
  clear h hbA hl hlc
  go_enter Tryd.func50, Tryd.ntmps50
  go_wp2_with fail
  refine C.out.mono ?_
  rintro e w1 ⟨r, ob, n, c, rfl, hr, hrd, hb1⟩
  have HB1 := Lib.hid (HBA.out.trans (hb1.mono HBA.out.size))
  have R1 := Lib.hid (RA.out.below hb1 RA.out.lt)
  have C2 := Lib.hid (some_any hrd (by omega))
  have HR := Lib.hid (show w.heap.size < r by simp at hr; omega)
  clear hr hrd hb1
  go_wp2_with fail
  refine C2.out.mono ?_
  rintro e w2 ⟨ss, v, hs, rfl, hg, hl, hr2⟩
  obtain ⟨ov, cv, rfl, -⟩ := hg.holds
  have R2 := Lib.hid (R1.out.asked hr2.turns (by have := HR.out; omega))
  have HB2 : Hid (Below w.heap.size w w2) := Lib.hid (HB1.out.trans (hr2.turns.below (by have := HR.out; omega) (by have := HR.out; omega) HB1.out.size))
  have HG := Lib.hid (hg.other R2.out (by decide) (by decide) 0 (.slice ov ss.length cv))
  have HE := Lib.hid (HB2.out.setCell (p := ⟨w.heap.size, 0, none⟩) (Nat.le_refl _) (.slice ov ss.length cv))
  have t2 := R2.out.cell (i := 0) (v := .slice none 0 0) (by rfl)
  have f2 := R2.out.frozen 0
  have d2 := (R2.out.set 0 (.slice ov ss.length cv)).cell (i := 0) (v := .slice ov ss.length cv) (by rfl)
  have HLL := Lib.hid hl
  clear hg hl hr2
  go_wp2
  obtain ⟨oe, ce, he, hH⟩ := HG.out.holds
  cases he
  exact bodyPost_ret (v := .agg #[.slice ov ss.length cv]) (by simp [results, Tryd.results50, go_sem, d2]) rfl ⟨ss, _, _, rfl, hH, HLL.out, HE.out⟩
set_option maxRecDepth 100000 in
set_option maxHeartbeats 16000000 in
theorem lawOwnNames {w : World} {oa : Option Addr} {len cap : Nat} (h : HoldsBytes w oa len) (hlc : len ≤ cap) (hE : TreeErrs w) :
    Calls Tryd.prog 11 #[.slice oa len cap] w fun e w' => e = .returned (.bool true) ∧ Below w.heap.size w w' := by
  by_cases hn : (1048576 : Int) < (len : Int)
  · clear h hE
    go_enter Tryd.func11, Tryd.ntmps11
    go_wp2
    go_ret
    exact ⟨rfl, Below.refl _ _⟩
  have C := Lib.hid (drawOwnNames_any h (by omega) hlc)
  have HE := Lib.hid hE
  clear h hE hlc
  go_enter Tryd.func11, Tryd.ntmps11
  go_wp2_with fail
  refine C.out.mono ?_
  rintro e w1 ⟨ss, ov, cv, rfl, hh, hl, hb1⟩
  have HF := Lib.hid (hl.fair (by omega))
  have hbA := (Below.refl w1.heap.size w1).alloc (Nat.le_refl _) (.cells #[.slice ov ss.length cv] 25)
  have HA := Lib.hid (belowS hb1 hbA)
  have HC := Lib.hid (hh.below hbA (Nat.le_refl _))
  have RB := Lib.hid (Row.new w1 [.slice ov ss.length cv] 25)
  have HEA := Lib.hid (HE.out.at HA.out)
  have r1 := RB.out.cell (i := 0) (v := .slice ov ss.length cv) (by rfl)
  clear hh hl hb1 hbA
  go_wp2_with fail
  refine (implOwnNames_any ss HF.out ov cv _ HC.out HEA.out).mono ?_
  rintro e w2 ⟨T, ok, rfl, hT, hb2⟩
  have VT := Lib.hid hT
  have X2 := Lib.hid hb2
  have r2 := (RB.out.below X2.out RB.out.lt).cell (i := 0) (v := .slice ov ss.length cv) (by rfl)
  clear hT hb2 r1
  go_wp2_with fail
  refine (specOwn_any ss HF.out ov cv _ (HC.out.below X2.out (Nat.le_refl _))).mono ?_
  rintro e w3 ⟨T', ok', rfl, hT, hb3⟩
  obtain ⟨rfl, rfl⟩ := hT.same VT.out
  have X3 := Lib.hid (belowS X2.out hb3)
  have r3 := (RB.out.below X3.out RB.out.lt).cell (i := 0) (v := .slice ov ss.length cv) (by rfl)
  clear hT hb3 r2
  go_wp2_with fail
  refine (implCount_any ss HF.out ov cv _ (HC.out.below X3.out (Nat.le_refl _)) (HEA.out.at X3.out)).mono ?_
  rintro e w4 ⟨n, rfl, hnn, hb4⟩
  have VN := Lib.hid hnn
  have X4 := Lib.hid (belowS X3.out hb4)
  have r4 := (RB.out.below X4.out RB.out.lt).cell (i := 0) (v := .slice ov ss.length cv) (by rfl)
  clear hnn hb4 r3
  go_wp2_with fail
  refine (implIsFresh_any ss HF.out ov cv _ (HC.out.below X4.out (Nat.le_refl _)) (HEA.out.at X4.out)).mono ?_
  rintro e w5 ⟨b, rfl, hbb, hb5⟩
  have VB := Lib.hid hbb
  have X5 := Lib.hid (belowS X4.out hb5)
  have r5 := (RB.out.below X5.out RB.out.lt).cell (i := 0) (v := .slice ov ss.length cv) (by rfl)
  have hTT : (T'.toList == T'.toList) = true := by simp
  have hTn : (T'.toList != T'.toList) = false := by simp
  have hoo : (ok' == ok') = true := by simp
  have hon : (ok' != ok') = false := by simp
  have hnn1 : (n == n) = true := by simp
  have hnn2 : (n != n) = false := by simp
  have hbb1 : (b == b) = true := by simp
  have hbb2 : (b != b) = false := by simp
  clear hbb hb5 r4
  go_wp2_with fail
  refine (specCount_any ss HF.out ov cv _ (HC.out.below X5.out (Nat.le_refl _))).mono ?_
  rintro e w6 ⟨n', rfl, hn', hb6⟩
  obtain rfl := hn'.same VN.out
  have X6 := Lib.hid (belowS X5.out hb6)
  have r6 := (RB.out.below X6.out RB.out.lt).cell (i := 0) (v := .slice ov ss.length cv) (by rfl)
  clear hn' hb6 r5
  go_wp2_with fail
  refine (specIsFresh_any ss HF.out ov cv _ (HC.out.below X6.out (Nat.le_refl _))).mono ?_
  rintro e w7 ⟨b', rfl, hb', hb7⟩
  obtain rfl := hb'.same VB.out
  have X7 := Lib.hid (belowS X6.out hb7)
  have r7 := (RB.out.below X7.out RB.out.lt).cell (i := 0) (v := .slice ov ss.length cv) (by rfl)
  clear hb' hb7 r6
  cases ok'
  · have hv : ¬ Valid ss := by
      rcases VT.out with ⟨h1, _, _⟩ | ⟨_, _, h2⟩
      · exact h1
      · cases h2
    obtain rfl : n' = -1 := by
      rcases VN.out with ⟨_, h1⟩ | ⟨h1, _⟩
      · exact h1
      · exact absurd h1 hv
    obtain rfl : b' = false := by
      rcases VB.out with ⟨_, h1⟩ | ⟨h1, _⟩
      · exact h1
      · exact absurd h1 hv
    go_wp2_with fail
    refine (specCount_any ss HF.out ov cv _ (HC.out.below X7.out (Nat.le_refl _))).mono ?_
    rintro e w8 ⟨n', rfl, hn', hb8⟩
    obtain rfl := hn'.same VN.out
    have X8 := Lib.hid (belowS X7.out hb8)
    have r8 := (RB.out.below X8.out RB.out.lt).cell (i := 0) (v := .slice ov ss.length cv) (by rfl)
    clear hn' hb8 r7
    go_wp2_with fail
    refine (specIsFresh_any ss HF.out ov cv _ (HC.out.below X8.out (Nat.le_refl _))).mono ?_
    rintro e w9 ⟨b', rfl, hb', hb9⟩
    obtain rfl := hb'.same VB.out
    have X9 := Lib.hid (belowS X8.out hb9)
    clear hb' hb9 r8
    go_wp2
    go_ret
    exact ⟨rfl, belowS HA.out X9.out⟩
  · obtain ⟨hv, rfl⟩ : Valid ss ∧ T' = bT (ownT ss) := by
      rcases VT.out with ⟨_, _, h2⟩ | ⟨h1, h2, _⟩
      · cases h2
      · exact ⟨h1, h2⟩
    have HV := Lib.hid hv
    have hn1 : n' = (cntL (ownT ss) : Int) := by
      rcases VN.out with ⟨h1, _⟩ | ⟨_, h1⟩
      · exact absurd hv h1
      · exact h1
    have hb1 : b' = decide (cntL (ownT ss) = (ownT ss).length) := by
      rcases VB.out with ⟨h1, _⟩ | ⟨_, h1⟩
      · exact absurd hv h1
      · exact h1
    have hcl : cntL (ownT ss) ≤ (ownT ss).length := cntL_len _ (ownS_bytes hv fun _ h => h)
    have hSZ : (bT (ownT ss)).size = (ownT ss).length := bT_size _
    have hDL : (dclP ss).length = (ownT ss).length := (ownT_length hv).symm
    have h30 := own_small hv
    have HNB := Lib.hid (And.intro hn1 hb1)
    clear hn1 hb1 hv VT VN VB
    go_wp2_with fail
    refine (implPls_any ss HF.out ov cv 1 _ (HC.out.below X7.out (Nat.le_refl _)) (HEA.out.at X7.out)).mono ?_
    intro e w8 hgot
    obtain ⟨o1, c1, xs, okP, rfl, hv1, ha1, -, hb8⟩ := hgot.val
    obtain ⟨rfl, rfl⟩ : xs = dclP ss ∧ okP = true := by
      rcases hv1 with ⟨h1, _⟩ | ⟨_, h2, h3⟩
      · exact absurd HV.out (fun h => h1 ⟨h, rfl⟩)
      · exact ⟨h2, h3⟩
    have A8 := Lib.hid ha1
    have X8 := Lib.hid (belowS X7.out hb8)
    clear hgot hv1 ha1 hb8 r7
    obtain ⟨D, hD⟩ : ∃ D, dclP ss = D := ⟨_, rfl⟩
    rw [hD] at A8 hDL ⊢
    have HLS := Lib.hid (And.intro hDL (And.intro hSZ (And.intro hcl h30)))
    clear hDL hSZ hcl h30
    go_wp2
    go_loopw [94] (fun i wr => ∃ k : Nat, i = .int .i64 k ∧ k ≤ D.length ∧ Hid (Below w8.heap.size w8 wr)) (fun i _ => D.length - (intOf i).toNat)
    case atStart => exact ⟨0, rfl, Nat.zero_le _, Lib.hid (Below.refl _ _)⟩
    case round =>
      obtain ⟨k, rfl, hk, HW⟩ := hrel
      have XR := Lib.hid (belowS X8.out HW.out)
      by_cases hlt : k < D.length
      · obtain ⟨⟨c, d⟩, hp⟩ : ∃ p, D[k]? = some p := ⟨_, List.getElem?_eq_getElem hlt⟩
        obtain ⟨x, hx, hxn, hks⟩ := own_at HV.out (by rw [hD]; exact hp)
        dsimp only at hx
        obtain ⟨S, hS⟩ : ∃ S, bT (ownT ss) = S := ⟨_, rfl⟩
        have hSZ := HLS.out.2.1
        have h30 := HLS.out.2.2.2
        rw [hS] at hxn hks hSZ ⊢
        obtain ⟨b2, f2, rfl, hb2, q1⟩ := (A8.out.below HW.out).at (by omega)
        obtain ⟨y0, y1⟩ := q1 k _ hp
        dsimp only at y0 y1
        have hbP := (Below.refl wr.heap.size wr).alloc (Nat.le_refl _) (.cells #[.int .i64 c, .int .i64 d] 32)
        have XP := Lib.hid (belowS XR.out hbP)
        have HWP := Lib.hid (HW.out.trans (hbP.mono HW.out.size))
        have rr := (RB.out.below XP.out RB.out.lt).cell (i := 0) (v := .slice ov ss.length cv) (by rfl)
        have RQ := Row.new wr [.int .i64 c, .int .i64 d] 32
        have q0 := RQ.cell (i := 0) (v := .int .i64 c) (by rfl)
        have q1' := RQ.cell (i := 1) (v := .int .i64 d) (by rfl)
        have HY := Lib.hid hx
        have hk0 : (0 : Int) ≤ (k : Int) := by omega
        have hk1 : (k : Int) < (D.length : Int) := by omega
        clear hb2 hbP RQ hp q1 hx
        go_wp2_with fail
        refine (itemAt_own HF.out HV.out HY.out _ (HC.out.below XP.out (Nat.le_refl _)) (HEA.out.at XP.out)).mono ?_
        rintro e w10 ⟨rfl, hb10⟩
        have hbJ := hb10.trans (((Below.refl w10.heap.size w10).alloc (Nat.le_refl _) (.cells #[.int .i64 x.kind, .string x.name, .int .i64 x.scope] 42)).mono hb10.size)
        have HWJ := Lib.hid (HWP.out.trans (hbJ.mono HWP.out.size))
        have RJ := Row.new w10 [.int .i64 x.kind, .string x.name, .int .i64 x.scope] 42
        have j1 := RJ.cell (i := 1) (v := .string x.name) (by rfl)
        have hwr : IntKind.i64.wrap ((k : Int) + 1) = (k : Int) + 1 := wrap_small _ (by omega) (by omega)
        have hn1 : (k : Int) + 1 ≤ (S.size : Int) := by omega
        have hn2 : (k : Int) ≤ (k : Int) + 1 := by omega
        have ht1 : ((k : Int) + 1).toNat = k + 1 := by omega
        have hn30 : S.size ≤ 30 := by omega
        have hxx : (x.name.toList == (S.extract k (k + 1)).toList) = true := by rw [hxn]; simp
        have hxy : (x.name.toList != (S.extract k (k + 1)).toList) = false := by rw [hxn]; simp
        clear hb10 hbJ RJ rr q0 q1' y0 y1 hxn hSZ h30 hS
        go_wp2
        go_quiet (fail)
        go_wp2
        go_roundw
        case rel => exact ⟨k + 1, by go_num, by omega, Lib.hid (below_drewN HWJ.out _)⟩
        case measure => simp only [intOf]; omega
      · obtain rfl : k = D.length := by omega
        obtain ⟨hn1, hb1⟩ := HNB.out
        obtain ⟨hDL, hSZ, hcl, h30⟩ := HLS.out
        have e1 : (((bT (ownT ss)).size : Int) == (D.length : Int)) = true := by simp; omega
        have e2 : decide (n' ≤ ((bT (ownT ss)).size : Int)) = true := by rw [hn1]; simp; omega
        have e3 : (b' == (n' == ((bT (ownT ss)).size : Int))) = true := by
          rw [hb1, hn1, hSZ, beq_iff_eq, Bool.eq_iff_iff, decide_eq_true_iff, beq_iff_eq]
          omega
        clear hn1 hb1 hSZ hDL hcl h30 hnn1 hbb1
        go_wp2
        go_ret
        exact ⟨rfl, belowS HA.out XR.out⟩
end Go.Proofs.YtjogfagjcpcihaaDoor
