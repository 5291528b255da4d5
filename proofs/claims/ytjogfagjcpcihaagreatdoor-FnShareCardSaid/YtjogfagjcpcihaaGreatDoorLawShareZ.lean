/-
  The walk of the law FnShare: at every code it returns true, and only new memory is written. Conditions: the code's memory holds bytes; the package-level errors hold errors.
-/
import Derived.Test.YtjogfagjcpcihaaGreatDoorWDrawTwoZ
import Derived.Test.YtjogfagjcpcihaaGreatDoorShrPZ
import Derived.Test.YtjogfagjcpcihaaGreatDoorJRZ
import Derived.Test.YtjogfagjcpcihaaGreatDoorJQZ
import Derived.Test.YtjogfagjcpcihaaGreatDoorWPlsTZ
import Derived.Test.YtjogfagjcpcihaaGreatDoorWSameZ
import Derived.Test.YtjogfagjcpcihaaGreatDoorWSgInZ
import Derived.Test.YtjogfagjcpcihaaGreatDoorJBZ
namespace Go.Proofs.YtjogfagjcpcihaaGreatDoor
open Go Go.RowKit Sg Go.Maps
theorem list_selfS (ps : List (Int × Int)) (oa ob : Option Addr) (ca cb : Nat) (w : World) (hn : ps.length ≤ 1000000) (ha : ArgPlaces w oa ps) (hb : ArgPlaces w ob ps) :
    Calls Tryz.prog 15 #[.slice oa ps.length ca, .slice ob ps.length cb] w fun e w' => e = .returned (.bool true) ∧ Below w.heap.size w w' :=
  (sgPlaces_any ps ps oa ob ca cb w hn hn ha hb).mono (by rintro e w' ⟨t, rfl, ht, hb⟩; exact ⟨by rw [ht.2 rfl], hb⟩)
theorem confl_short (ss : List Sc) (p : Int × Int) (h : (dclP ss).length ≤ 25) : (conflP ss p).length ≤ 25 := Nat.le_trans (cfUp_length ss _ _) h
theorem confl_val {ss : List Sc} {p : Int × Int} {xs : List (Int × Int)} {ok : Bool} (h : plVal (conflOk ss p) (conflP ss p) xs ok) : xs.length ≤ 25 := by
  rcases h with ⟨_, rfl, _⟩ | ⟨h1, rfl, _⟩
  · simp
  · exact confl_short ss p h1.2.1
set_option maxRecDepth 100000 in
set_option maxHeartbeats 16000000 in
theorem lawShare {w : World} {oa : Option Addr} {len cap : Nat} (h : HoldsBytes w oa len) (hlc : len ≤ cap) (hE : FewErrs w) :
    Calls Tryz.prog 5 #[.slice oa len cap] w fun e w' => e = .returned (.bool true) ∧ Below w.heap.size w w' := by
  by_cases hn : (1048576 : Int) < (len : Int)
  · clear h hE
    go_enter Tryz.func5, Tryz.ntmps5
    go_wp2
    go_ret
    exact ⟨rfl, Below.refl _ _⟩
  have C := Lib.hid (drawShare_any h (by omega) hlc)
  have HE := Lib.hid hE
  clear h hE hlc
  go_enter Tryz.func5, Tryz.ntmps5
  go_wp2_with fail
  refine C.out.mono ?_
  rintro e w1 ⟨ss, ov, cv, a, b, c, d, rfl, hh, hl, hI, hb1⟩
  have HF := Lib.hid (hl.fair (by omega))
  have hpw : (placed 0 ss).length ≤ 1048576 := Nat.le_trans (placed_bound 0 ss 210 210 hl.count hl.items) (by omega)
  have hbA := (((Below.refl w1.heap.size w1).alloc (Nat.le_refl _) (.cells #[.slice ov ss.length cv] 33)).alloc (by simp) (.cells #[.int .i64 a, .int .i64 b] 26)).alloc (by simp; omega) (.cells #[.int .i64 c, .int .i64 d] 26)
  have HA := Lib.hid (belowS hb1 hbA)
  have HC := Lib.hid (hh.below hbA (Nat.le_refl _))
  have RB := Lib.hid (((Row.new w1 [.slice ov ss.length cv] 33).alloc (.cells #[.int .i64 a, .int .i64 b] 26)).alloc (.cells #[.int .i64 c, .int .i64 d] 26))
  have RP := (Row.new (w1.alloc (.cells #[.slice ov ss.length cv] 33)) [.int .i64 a, .int .i64 b] 26).alloc (.cells #[.int .i64 c, .int .i64 d] 26)
  rw [World.size_alloc] at RP
  have RP := Lib.hid RP
  have RQ := Row.new ((w1.alloc (.cells #[.slice ov ss.length cv] 33)).alloc (.cells #[.int .i64 a, .int .i64 b] 26)) [.int .i64 c, .int .i64 d] 26
  rw [World.size_alloc, World.size_alloc] at RQ
  have RQ := Lib.hid RQ
  have HEA := Lib.hid (HE.out.at HA.out)
  have r1 := RB.out.cell (i := 0) (v := .slice ov ss.length cv) (by rfl)
  have p10 := RP.out.cell (i := 0) (v := .int .i64 a) (by rfl)
  have p11 := RP.out.cell (i := 1) (v := .int .i64 b) (by rfl)
  have q10 := RQ.out.cell (i := 0) (v := .int .i64 c) (by rfl)
  have q11 := RQ.out.cell (i := 1) (v := .int .i64 d) (by rfl)
  clear hh hl hb1 hbA hI r1 p10 p11 q10 q11
  go_wp2_with fail
  refine (implShare_any ss HF.out ov cv a b c d _ HC.out HEA.out).mono ?_
  rintro e w2 ⟨is, rfl, his, hb2⟩
  generalize ((w1.alloc (.cells #[.slice ov ss.length cv] 33)).alloc (.cells #[.int .i64 a, .int .i64 b] 26)).alloc (.cells #[.int .i64 c, .int .i64 d] 26) = wA at *
  have HIS := Lib.hid his
  have X2 := Lib.hid hb2
  have r2 := (RB.out.below X2.out RB.out.lt).cell (i := 0) (v := .slice ov ss.length cv) (by rfl)
  have p20 := (RP.out.below X2.out RP.out.lt).cell (i := 0) (v := .int .i64 a) (by rfl)
  have p21 := (RP.out.below X2.out RP.out.lt).cell (i := 1) (v := .int .i64 b) (by rfl)
  clear his hb2
  go_wp2_with fail
  refine (implConfl_any ss HF.out ov cv a b _ (HC.out.below X2.out (Nat.le_refl _)) (HEA.out.at X2.out)).mono ?_
  intro e w3 hgot
  obtain ⟨o1, c1, xs, ok, rfl, hv1, ha1, -, hb3⟩ := hgot.val
  have V1 := Lib.hid hv1
  have A1 := Lib.hid ha1
  have X3 := Lib.hid (belowS X2.out hb3)
  have r3 := (RB.out.below X3.out RB.out.lt).cell (i := 0) (v := .slice ov ss.length cv) (by rfl)
  have p30 := (RP.out.below X3.out RP.out.lt).cell (i := 0) (v := .int .i64 a) (by rfl)
  have p31 := (RP.out.below X3.out RP.out.lt).cell (i := 1) (v := .int .i64 b) (by rfl)
  clear hgot hv1 ha1 hb3 r2 p20 p21
  go_wp2_with fail
  refine (specConfl_any ss HF.out hpw ov cv a b _ (HC.out.below X3.out (Nat.le_refl _))).mono ?_
  intro e w4 hgot
  obtain ⟨o2, c2, ys, ok', rfl, hv2, ha2, hb4⟩ := hgot.val
  obtain ⟨rfl, rfl⟩ := hv2.same V1.out
  have A2 := Lib.hid ha2
  have A1a := Lib.hid (A1.out.below hb4)
  have X4 := Lib.hid (belowS X3.out hb4)
  have r4 := (RB.out.below X4.out RB.out.lt).cell (i := 0) (v := .slice ov ss.length cv) (by rfl)
  have p40 := (RP.out.below X4.out RP.out.lt).cell (i := 0) (v := .int .i64 a) (by rfl)
  have p41 := (RP.out.below X4.out RP.out.lt).cell (i := 1) (v := .int .i64 b) (by rfl)
  have q40 := (RQ.out.below X4.out RQ.out.lt).cell (i := 0) (v := .int .i64 c) (by rfl)
  have q41 := (RQ.out.below X4.out RQ.out.lt).cell (i := 1) (v := .int .i64 d) (by rfl)
  clear hgot hv2 ha2 hb4 r3 p30 p31
  go_wp2_with fail
  refine (specShare_any ss HF.out hpw ov cv a b c d _ (HC.out.below X4.out (Nat.le_refl _))).mono ?_
  rintro e w5 ⟨is2, rfl, his2, hb5⟩
  obtain rfl : is2 = is := by rw [Bool.eq_iff_iff, his2, HIS.out]
  have A1b := Lib.hid (A1a.out.below hb5)
  have A2b := Lib.hid (A2.out.below hb5)
  have X5 := Lib.hid (belowS X4.out hb5)
  have r5 := (RB.out.below X5.out RB.out.lt).cell (i := 0) (v := .slice ov ss.length cv) (by rfl)
  have p50 := (RP.out.below X5.out RP.out.lt).cell (i := 0) (v := .int .i64 a) (by rfl)
  have p51 := (RP.out.below X5.out RP.out.lt).cell (i := 1) (v := .int .i64 b) (by rfl)
  have q50 := (RQ.out.below X5.out RQ.out.lt).cell (i := 0) (v := .int .i64 c) (by rfl)
  have q51 := (RQ.out.below X5.out RQ.out.lt).cell (i := 1) (v := .int .i64 d) (by rfl)
  have hii : (is2 == is2) = true := by simp
  have hin : (is2 != is2) = false := by simp
  have hoo : (ok' == ok') = true := by simp
  have hon : (ok' != ok') = false := by simp
  clear his2 hb5 r4 p40 p41 q40 q41
  go_wp2_with fail
  refine (implShare_any ss HF.out ov cv c d a b _ (HC.out.below X5.out (Nat.le_refl _)) (HEA.out.at X5.out)).mono ?_
  rintro e w6 ⟨is3, rfl, his3, hb6⟩
  obtain rfl : is3 = is2 := by rw [Bool.eq_iff_iff, his3, HIS.out]; exact ⟨share_comm, share_comm⟩
  have A1c := Lib.hid (A1b.out.below hb6)
  have A2c := Lib.hid (A2b.out.below hb6)
  have X6 := Lib.hid (belowS X5.out hb6)
  have hyl : ys.length ≤ 25 := confl_val V1.out
  clear his3 hb6 r5 p50 p51 q50 q51
  go_wp2_with fail
  refine (list_selfS ys o1 o2 c1 c2 _ (by omega) A1c.out A2c.out).mono ?_
  rintro e w7 ⟨rfl, hb7⟩
  have A1d := Lib.hid (A1c.out.below hb7)
  have X7 := Lib.hid (belowS X6.out hb7)
  clear hb7
  go_wp2
  go_loopw [69] (fun i wr => ∃ k : Nat, i = .int .i64 k ∧ k ≤ ys.length ∧ Hid (Below w7.heap.size w7 wr)) (fun i _ => ys.length - (intOf i).toNat)
  case atStart => exact ⟨0, rfl, Nat.zero_le _, Lib.hid (Below.refl _ _)⟩
  case round =>
    obtain ⟨k, rfl, hk, HW⟩ := hrel
    have X8 := Lib.hid (belowS X7.out HW.out)
    have A1e := Lib.hid (A1d.out.below HW.out)
    have r8 := (RB.out.below X8.out RB.out.lt).cell (i := 0) (v := .slice ov ss.length cv) (by rfl)
    have p80 := (RP.out.below X8.out RP.out.lt).cell (i := 0) (v := .int .i64 a) (by rfl)
    have p81 := (RP.out.below X8.out RP.out.lt).cell (i := 1) (v := .int .i64 b) (by rfl)
    have q80 := (RQ.out.below X8.out RQ.out.lt).cell (i := 0) (v := .int .i64 c) (by rfl)
    have q81 := (RQ.out.below X8.out RQ.out.lt).cell (i := 1) (v := .int .i64 d) (by rfl)
    by_cases hlt : k < ys.length
    · obtain ⟨hok, hys⟩ : conflOk ss (a, b) ∧ ys = conflP ss (a, b) := by
        rcases V1.out with ⟨_, h2, _⟩ | ⟨h1, h2, _⟩
        · rw [h2] at hlt; simp at hlt
        · exact ⟨h1, h2⟩
      obtain ⟨q, hq⟩ : ∃ q, ys[k]? = some q := ⟨_, List.getElem?_eq_getElem hlt⟩
      obtain ⟨qa, qb⟩ := q
      have hmem := confl_comm hok.2.2 (by rw [← hys]; exact List.mem_of_getElem? hq)
      have HM := Lib.hid (And.intro (show conflOk ss (qa, qb) from ⟨hok.1, hok.2.1, hmem.1⟩) hmem.2)
      obtain ⟨bl, offl, rfl, hbl, hcl⟩ := A1e.out.at (by omega)
      obtain ⟨k0, k1⟩ := hcl k (qa, qb) hq
      have hbx := (Below.refl wr.heap.size wr).alloc (Nat.le_refl _) (.cells #[.int .i64 qa, .int .i64 qb] 26)
      have X9 := Lib.hid (belowS X8.out hbx)
      have HW9 := Lib.hid (HW.out.trans (hbx.mono HW.out.size))
      have r9 := (RB.out.below X9.out RB.out.lt).cell (i := 0) (v := .slice ov ss.length cv) (by rfl)
      have k9a := (Row.new wr [.int .i64 qa, .int .i64 qb] 26).cell (i := 0) (v := .int .i64 qa) (by rfl)
      have k9b := (Row.new wr [.int .i64 qa, .int .i64 qb] 26).cell (i := 1) (v := .int .i64 qb) (by rfl)
      clear hok hys hmem hcl hbl hq hbx
      go_wp2_with fail
      refine (implConfl_any ss HF.out ov cv qa qb _ (HC.out.below X9.out (Nat.le_refl _)) (HEA.out.at X9.out)).mono ?_
      intro e w10 hgot
      obtain ⟨o3, c3, zs, ok3, rfl, hv3, ha3, -, hb10⟩ := hgot.val
      have HZ : Hid ((a, b) ∈ zs ∧ zs.length ≤ 25) := Lib.hid (by
        refine ⟨?_, confl_val hv3⟩
        rcases hv3 with ⟨h1, _⟩ | ⟨_, h2, _⟩
        · exact absurd HM.out.1 h1
        · rw [h2]; exact HM.out.2)
      have A3 := Lib.hid ha3
      have X10 := Lib.hid (belowS X9.out hb10)
      have HW10 := Lib.hid (HW9.out.trans (hb10.mono HW9.out.size))
      have p90 := (RP.out.below X10.out RP.out.lt).cell (i := 0) (v := .int .i64 a) (by rfl)
      have p91 := (RP.out.below X10.out RP.out.lt).cell (i := 1) (v := .int .i64 b) (by rfl)
      clear hgot hv3 ha3 hb10 r8 p80 p81 q80 q81 k0 k1 r9 k9a k9b
      go_wp2_with fail
      refine (sgIn_any zs o3 c3 a b _ (by have := HZ.out.2; omega) A3.out).mono ?_
      rintro e w11 ⟨rfl, hb11⟩
      have HW11 := Lib.hid (HW10.out.trans (hb11.mono HW10.out.size))
      have hdz : decide ((a, b) ∈ zs) = true := decide_eq_true HZ.out.1
      clear hb11 p90 p91
      rw [hdz]
      go_wp2
      go_roundw
      case rel => exact ⟨k + 1, by go_num, by omega, HW11⟩
      case measure => simp only [intOf]; omega
    · obtain rfl : k = ys.length := by omega
      go_wp2_with fail
      refine (implPls_any ss HF.out ov cv 1 _ (HC.out.below X8.out (Nat.le_refl _)) (HEA.out.nmg.trees.at X8.out)).mono ?_
      intro e w9 hgot
      obtain ⟨o4, c4, al, ok4, rfl, hv4, ha4, -, hb9⟩ := hgot.val
      have V4 := Lib.hid hv4
      have A4 := Lib.hid ha4
      have X9 := Lib.hid (belowS X8.out hb9)
      have A1f := Lib.hid (A1e.out.below hb9)
      clear hgot hv4 ha4 hb9 r8 p80 p81 q80 q81
      cases ok'
      · have h0 : ys.length = 0 := by
          rcases V1.out with ⟨_, h2, _⟩ | ⟨_, _, h3⟩
          · rw [h2]; rfl
          · cases h3
        have hns : is3 = false := by
          cases his : is3 with
          | false => rfl
          | true =>
            exfalso
            have hs := HIS.out.1 his
            rcases V1.out with ⟨h1, _⟩ | ⟨_, _, h3⟩
            · exact h1 ⟨hs.1, hs.2.1, hs.2.2.1⟩
            · cases h3
        subst hns
        have h00 : ((ys.length : Int) == 0) = true := by rw [h0]; rfl
        have XE := Lib.hid (belowS HA.out X9.out)
        clear h0 hyl
        go_wp2
        go_ret
        exact ⟨rfl, XE.out⟩
      · obtain ⟨hok, hys⟩ : conflOk ss (a, b) ∧ ys = conflP ss (a, b) := by
          rcases V1.out with ⟨_, _, h3⟩ | ⟨h1, h2, _⟩
          · cases h3
          · exact ⟨h1, h2⟩
        have has : al = dclP ss := by
          rcases V4.out with ⟨h1, _⟩ | ⟨_, h2, _⟩
          · exact absurd ⟨hok.1.1, rfl⟩ h1
          · exact h2
        have hal : al.length ≤ 25 := by rw [has]; exact hok.2.1
        have HSH : Hid (is3 = true ↔ (a, b) ≠ (c, d) ∧ (c, d) ∈ al ∧ (c, d) ∉ ys) := Lib.hid (by rw [HIS.out, has, hys]; exact share_iffC hok)
        have p90 := (RP.out.below X9.out RP.out.lt).cell (i := 0) (v := .int .i64 a) (by rfl)
        have p91 := (RP.out.below X9.out RP.out.lt).cell (i := 1) (v := .int .i64 b) (by rfl)
        have q90 := (RQ.out.below X9.out RQ.out.lt).cell (i := 0) (v := .int .i64 c) (by rfl)
        have q91 := (RQ.out.below X9.out RQ.out.lt).cell (i := 1) (v := .int .i64 d) (by rfl)
        have A5 := Lib.hid (A1f.out)
        clear hok hys has
        by_cases hpq : (a, b) = (c, d)
        · obtain ⟨rfl, rfl⟩ := Prod.mk.inj hpq
          have hns : is3 = false := by
            cases his : is3 with
            | false => rfl
            | true => exact absurd rfl (HSH.out.1 his).1
          subst hns
          have XE := Lib.hid (belowS HA.out X9.out)
          go_wp2
          go_ret
          exact ⟨rfl, XE.out⟩
        · by_cases hac : a = c
          · subst hac
            have hbd : ¬ b = d := fun h => hpq (by rw [h])
            go_wp2_with fail
            refine (sgIn_any al o4 c4 a d _ (by omega) A4.out).mono ?_
            rintro e w10 ⟨rfl, hb10⟩
            have X10 := Lib.hid (belowS X9.out hb10)
            have A1g := Lib.hid (A1f.out.below hb10)
            have q100 := (RQ.out.below X10.out RQ.out.lt).cell (i := 0) (v := .int .i64 a) (by rfl)
            have q101 := (RQ.out.below X10.out RQ.out.lt).cell (i := 1) (v := .int .i64 d) (by rfl)
            clear hb10 p90 p91 q90 q91
            by_cases hm : (a, d) ∈ al
            · have hmd : decide ((a, d) ∈ al) = true := decide_eq_true hm
              generalize decide ((a, d) ∈ al) = bm at *
              subst hmd
              have H5 : Hid ((is3 == !decide ((a, d) ∈ ys)) = true) := Lib.hid (by
                rw [beq_iff_eq, Bool.eq_iff_iff, HSH.out]
                simp [hpq, hm])
              clear hm
              go_wp2_with fail
              refine (sgIn_any ys o1 c1 a d _ (by omega) A1g.out).mono ?_
              rintro e w11 ⟨rfl, hb11⟩
              have XE := Lib.hid (belowS HA.out (belowS X10.out hb11))
              generalize decide ((a, d) ∈ ys) = bn at *
              clear hb11 q100 q101
              go_wp2
              go_ret
              exact ⟨congrArg (fun b => Ending.returned (Value.bool b)) H5.out, XE.out⟩
            · have hmd : decide ((a, d) ∈ al) = false := decide_eq_false hm
              generalize decide ((a, d) ∈ al) = bm at *
              subst hmd
              have hns : is3 = false := by
                cases his : is3 with
                | false => rfl
                | true => exact absurd (HSH.out.1 his).2.1 hm
              subst hns
              have XE := Lib.hid (belowS HA.out X10.out)
              clear hm q100 q101
              go_wp2
              go_ret
              exact ⟨rfl, XE.out⟩
          · go_wp2_with fail
            refine (sgIn_any al o4 c4 c d _ (by omega) A4.out).mono ?_
            rintro e w10 ⟨rfl, hb10⟩
            have X10 := Lib.hid (belowS X9.out hb10)
            have A1g := Lib.hid (A1f.out.below hb10)
            have q100 := (RQ.out.below X10.out RQ.out.lt).cell (i := 0) (v := .int .i64 c) (by rfl)
            have q101 := (RQ.out.below X10.out RQ.out.lt).cell (i := 1) (v := .int .i64 d) (by rfl)
            clear hb10 p90 p91 q90 q91
            by_cases hm : (c, d) ∈ al
            · have hmd : decide ((c, d) ∈ al) = true := decide_eq_true hm
              generalize decide ((c, d) ∈ al) = bm at *
              subst hmd
              have H5 : Hid ((is3 == !decide ((c, d) ∈ ys)) = true) := Lib.hid (by
                rw [beq_iff_eq, Bool.eq_iff_iff, HSH.out]
                simp [hpq, hm])
              clear hm
              go_wp2_with fail
              refine (sgIn_any ys o1 c1 c d _ (by omega) A1g.out).mono ?_
              rintro e w11 ⟨rfl, hb11⟩
              have XE := Lib.hid (belowS HA.out (belowS X10.out hb11))
              generalize decide ((c, d) ∈ ys) = bn at *
              clear hb11 q100 q101
              go_wp2
              go_ret
              exact ⟨congrArg (fun b => Ending.returned (Value.bool b)) H5.out, XE.out⟩
            · have hmd : decide ((c, d) ∈ al) = false := decide_eq_false hm
              generalize decide ((c, d) ∈ al) = bm at *
              subst hmd
              have hns : is3 = false := by
                cases his : is3 with
                | false => rfl
                | true => exact absurd (HSH.out.1 his).2.1 hm
              subst hns
              have XE := Lib.hid (belowS HA.out X10.out)
              clear hm q100 q101
              go_wp2
              go_ret
              exact ⟨rfl, XE.out⟩
end Go.Proofs.YtjogfagjcpcihaaGreatDoor
