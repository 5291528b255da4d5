/-
  The walks of the laws' sgPlaces and sgSame. Condition: the arguments' memory holds the lists. The walk of the law FnLookUp: at every argument it returns true, and only new memory is written. Conditions: the argument's memory holds bytes; the package-level errors hold errors.
-/
import Derived.Test.YtmfglfhloahmlaaDoorWMarksP
import Derived.Test.YtmfglfhloahmlaaDoorWSpecPls
import Derived.Test.YtmfglfhloahmlaaDoorWFrom
import Derived.Test.YtmfglfhloahmlaaDoorLawPls
import Derived.Test.YtmfglfhloahmlaaDoorWLookUpWay
import Derived.Test.YtmfglfhloahmlaaDoorWImplLook
import Derived.Test.YtmfglfhloahmlaaDoorWSpecLook
import Derived.Test.YtmfglfhloahmlaaDoorWDraws2
import Derived.ChangeSame
import Derived.ProofKit
import Derived.OpenShut
namespace Go.Proofs.YtmfglfhloahmlaaDoor
open Go Go.RowKit
theorem take_ne {α : Type} {ps qs : List α} {k : Nat} {p q : α} (hp : ps[k]? = some p) (hq : qs[k]? = some q) (h : p ≠ q) : ps ≠ qs := by
  rintro rfl
  rw [hp] at hq
  exact h (Option.some.inj hq)
theorem take_next {α : Type} {ps qs : List α} {k : Nat} {p : α} (h : ps.take k = qs.take k) (hp : ps[k]? = some p) (hq : qs[k]? = some p) : ps.take (k + 1) = qs.take (k + 1) := by
  rw [List.take_add_one, List.take_add_one, hp, hq, h]
theorem take_all {α : Type} {ps qs : List α} {k : Nat} (h : ps.take k = qs.take k) (hk : k = min ps.length qs.length) : ps = qs ↔ ps.length = qs.length := by
  refine ⟨fun e => by rw [e], fun e => ?_⟩
  rw [List.take_of_length_le (by omega), List.take_of_length_le (by omega)] at h
  exact h
/-- What the laws' comparisons answer. -/
def SameGot (eq : Prop) (w : World) (e : Ending) (w' : World) : Prop := ∃ b : Bool, e = .returned (.bool b) ∧ (b = true ↔ eq) ∧ Below w.heap.size w w'
set_option maxRecDepth 100000 in
set_option maxHeartbeats 1600000 in
theorem sgPlaces_any (ps qs : List (Int × Int)) (oa ob : Option Addr) (ca cb : Nat) (w : World) (hn : ps.length ≤ 1000000) (hm : qs.length ≤ 1000000) (ha : ArgPlaces w oa ps) (hb : ArgPlaces w ob qs) :
    Calls Tryd.prog 43 #[.slice oa ps.length ca, .slice ob qs.length cb] w (SameGot (ps = qs) w) := by
  have HA := Lib.hid ha
  have HB := Lib.hid hb
  clear ha hb
  go_enter Tryd.func43, Tryd.ntmps43
  go_wp2
  · go_loopw [11] (fun i wr => ∃ k : Nat, i = .int .i64 k ∧ k ≤ qs.length ∧ Hid (ps.take k = qs.take k) ∧ Hid (Below w.heap.size w wr)) (fun i _ => qs.length - (intOf i).toNat)
    case atStart => exact ⟨0, rfl, Nat.zero_le _, Lib.hid rfl, Lib.hid (Below.refl _ _)⟩
    case round =>
      obtain ⟨k, rfl, hk, HT, HW⟩ := hrel
      by_cases hlt : k < qs.length
      · have hl1 : k < ps.length := by omega
        have hl2 : k < qs.length := by omega
        obtain ⟨p, hp⟩ : ∃ p, ps[k]? = some p := ⟨_, List.getElem?_eq_getElem hl1⟩
        obtain ⟨q, hq⟩ : ∃ q, qs[k]? = some q := ⟨_, List.getElem?_eq_getElem hl2⟩
        obtain ⟨b1, f1, rfl, hb1, c1⟩ := (HA.out.below HW.out).at (by omega)
        obtain ⟨b2, f2, rfl, hb2, c2⟩ := (HB.out.below HW.out).at (by omega)
        obtain ⟨p0, p1⟩ := c1 k p hp
        obtain ⟨q0, q1⟩ := c2 k q hq
        have HP := Lib.hid hp
        have HQ := Lib.hid hq
        have HD := Lib.hid (HW.out.drew)
        have p0' := cell_drew p0
        have p1' := cell_drew p1
        have q0' := cell_drew q0
        have q1' := cell_drew q1
        clear c1 c2 hp hq p0 p1 q0 q1 hb1 hb2
        obtain ⟨a, b⟩ := p
        obtain ⟨c, d⟩ := q
        by_cases he : a = c ∧ b = d
        · obtain ⟨rfl, rfl⟩ := he
          have hab : ((a == a) && (b == b)) = true := by simp
          have HN := Lib.hid (take_next HT.out HP.out HQ.out)
          go_upto_region 4 with (fail)
          go_region
          all_goals go_wp2
          all_goals go_roundw
          all_goals first
            | exact ⟨k + 1, by go_num, by omega, HN, HD⟩
            | (simp only [intOf]; omega)
        · have HNE : Hid ((false = true) ↔ ps = qs) := Lib.hid ⟨fun h => (by cases h), fun h => absurd h (take_ne HP.out HQ.out (fun e => he ⟨by have := congrArg Prod.fst e; exact this, by have := congrArg Prod.snd e; exact this⟩))⟩
          by_cases h1 : a = c
          · subst h1
            have h2 : ¬ b = d := fun h => he ⟨rfl, h⟩
            clear he
            go_upto_region 4 with (fail)
            go_region
            all_goals go_wp2
            all_goals go_ret
            all_goals exact ⟨_, rfl, HNE.out, HD.out⟩
          · clear he
            go_upto_region 4 with (fail)
            go_region
            all_goals go_wp2
            all_goals go_ret
            all_goals exact ⟨_, rfl, HNE.out, HD.out⟩
      · have hkk : k = min ps.length qs.length := by omega
        have HE := Lib.hid (take_all HT.out hkk)
        clear hkk
        go_wp2
        go_ret
        exact ⟨_, rfl, by rw [HE.out]; simp; constructor <;> intro h <;> omega, HW.out⟩
  · go_loopw [11] (fun i wr => ∃ k : Nat, i = .int .i64 k ∧ k ≤ ps.length ∧ Hid (ps.take k = qs.take k) ∧ Hid (Below w.heap.size w wr)) (fun i _ => ps.length - (intOf i).toNat)
    case atStart => exact ⟨0, rfl, Nat.zero_le _, Lib.hid rfl, Lib.hid (Below.refl _ _)⟩
    case round =>
      obtain ⟨k, rfl, hk, HT, HW⟩ := hrel
      by_cases hlt : k < ps.length
      · have hl1 : k < ps.length := by omega
        have hl2 : k < qs.length := by omega
        obtain ⟨p, hp⟩ : ∃ p, ps[k]? = some p := ⟨_, List.getElem?_eq_getElem hl1⟩
        obtain ⟨q, hq⟩ : ∃ q, qs[k]? = some q := ⟨_, List.getElem?_eq_getElem hl2⟩
        obtain ⟨b1, f1, rfl, hb1, c1⟩ := (HA.out.below HW.out).at (by omega)
        obtain ⟨b2, f2, rfl, hb2, c2⟩ := (HB.out.below HW.out).at (by omega)
        obtain ⟨p0, p1⟩ := c1 k p hp
        obtain ⟨q0, q1⟩ := c2 k q hq
        have HP := Lib.hid hp
        have HQ := Lib.hid hq
        have HD := Lib.hid (HW.out.drew)
        have p0' := cell_drew p0
        have p1' := cell_drew p1
        have q0' := cell_drew q0
        have q1' := cell_drew q1
        clear c1 c2 hp hq p0 p1 q0 q1 hb1 hb2
        obtain ⟨a, b⟩ := p
        obtain ⟨c, d⟩ := q
        by_cases he : a = c ∧ b = d
        · obtain ⟨rfl, rfl⟩ := he
          have hab : ((a == a) && (b == b)) = true := by simp
          have HN := Lib.hid (take_next HT.out HP.out HQ.out)
          go_upto_region 4 with (fail)
          go_region
          all_goals go_wp2
          all_goals go_roundw
          all_goals first
            | exact ⟨k + 1, by go_num, by omega, HN, HD⟩
            | (simp only [intOf]; omega)
        · have HNE : Hid ((false = true) ↔ ps = qs) := Lib.hid ⟨fun h => (by cases h), fun h => absurd h (take_ne HP.out HQ.out (fun e => he ⟨by have := congrArg Prod.fst e; exact this, by have := congrArg Prod.snd e; exact this⟩))⟩
          by_cases h1 : a = c
          · subst h1
            have h2 : ¬ b = d := fun h => he ⟨rfl, h⟩
            clear he
            go_upto_region 4 with (fail)
            go_region
            all_goals go_wp2
            all_goals go_ret
            all_goals exact ⟨_, rfl, HNE.out, HD.out⟩
          · clear he
            go_upto_region 4 with (fail)
            go_region
            all_goals go_wp2
            all_goals go_ret
            all_goals exact ⟨_, rfl, HNE.out, HD.out⟩
      · have hkk : k = min ps.length qs.length := by omega
        have HE := Lib.hid (take_all HT.out hkk)
        clear hkk
        go_wp2
        go_ret
        exact ⟨_, rfl, by rw [HE.out]; simp; constructor <;> intro h <;> omega, HW.out⟩
end Go.Proofs.YtmfglfhloahmlaaDoor
namespace Go.Proofs.YtmfglfhloahmlaaDoor
open Go Go.RowKit Sg
theorem ownOk_in {ss : List Sc} {s : Int} {nm : ByteArray} (h : ownOk ss s nm) {m : Nat} (hm : m ∈ chainP ss s.toNat) : ownOk ss (m : Int) nm := by
  have h1 := chain_le h.1.1.climbs s.toNat m hm
  have h2 := h.1.2
  exact ⟨⟨h.1.1, by omega, by omega⟩, h.2⟩
set_option maxRecDepth 100000 in
set_option maxHeartbeats 4000000 in
theorem lawLookUp {w : World} {oa : Option Addr} {len cap : Nat} (h : HoldsBytes w oa len) (hlc : len ≤ cap) (hE : NameErrs w) :
    Calls Tryd.prog 11 #[.slice oa len cap] w fun e w' => e = .returned (.bool true) ∧ Below w.heap.size w w' := by
  by_cases hn : (1048576 : Int) < (len : Int)
  · clear h hE
    go_enter Tryd.func11, Tryd.ntmps11
    go_wp2
    go_ret
    exact ⟨rfl, Below.refl _ _⟩
  · have C := Lib.hid (drawLook_any h (by omega) hlc)
    have HE := Lib.hid hE
    clear h hE hlc
    go_enter Tryd.func11, Tryd.ntmps11
    go_wp2_with fail
    refine C.out.mono ?_
    rintro e w1 ⟨ss, ov, cv, s, nm, rfl, hh, hl, hsI, hnm, hb1⟩
    have HF := Lib.hid (hl.fair (by omega))
    have hbA := (Below.refl w1.heap.size w1).alloc (Nat.le_refl _) (.cells #[.slice ov ss.length cv] 31)
    have HA := Lib.hid (belowS hb1 hbA)
    have HC := Lib.hid (hh.below hbA (Nat.le_refl _))
    have RB := Lib.hid (Row.new w1 [.slice ov ss.length cv] 31)
    clear hh hl hsI hnm hb1 hbA
    go_wp2_with fail
    refine (implLookUp_any ss HF.out ov cv s nm _ HC.out (HE.out.at HA.out)).mono ?_
    intro e w2 hgot
    obtain ⟨o1, c1, xs, b, rfl, hv1, ha1, -, hb2⟩ := hgot.val
    have V1 := Lib.hid hv1
    have A1 := Lib.hid ha1
    have X2 := Lib.hid hb2
    have r2 := (RB.out.below X2.out RB.out.lt).cell (i := 0) (v := .slice ov ss.length cv) (by rfl)
    clear hgot hv1 ha1 hb2
    go_wp2_with fail
    refine (specLookUp_any ss HF.out.fits ov cv s nm _ (HC.out.below X2.out (Nat.le_refl _))).mono ?_
    intro e w3 hgot
    obtain ⟨o2, c2, ys, b', rfl, hv2, ha2, hb3⟩ := hgot.val
    obtain ⟨rfl, rfl⟩ := hv2.same V1.out
    have A2 := Lib.hid ha2
    have A1b := Lib.hid (A1.out.below hb3)
    have X3 := Lib.hid (belowS X2.out hb3)
    have r3 := (RB.out.below X3.out RB.out.lt).cell (i := 0) (v := .slice ov ss.length cv) (by rfl)
    clear hgot hv2 ha2 hb3 r2
    go_wp2_with fail
    refine (implLookUpWay_any ss HF.out ov cv s nm _ (HC.out.below X3.out (Nat.le_refl _)) ((HE.out.at HA.out).at X3.out)).mono ?_
    rintro e w4 ⟨z, y, rfl, hw4, hb4⟩
    have W4 := Lib.hid hw4
    have X4 := Lib.hid (belowS X3.out hb4)
    have A1c := Lib.hid (A1b.out.below hb4)
    have A2c := Lib.hid (A2.out.below hb4)
    have r4 := (RB.out.below X4.out RB.out.lt).cell (i := 0) (v := .slice ov ss.length cv) (by rfl)
    clear hw4 hb4 r3
    go_wp2_with fail
    refine (specLookUpWay_any ss HF.out.fits ov cv s nm _ (HC.out.below X4.out (Nat.le_refl _))).mono ?_
    rintro e w5 ⟨z', y', rfl, hw5, hb5⟩
    obtain ⟨rfl, rfl⟩ := hw5.same W4.out
    have X5 := Lib.hid (belowS X4.out hb5)
    have A1d := Lib.hid (A1c.out.below hb5)
    have A2d := Lib.hid (A2c.out.below hb5)
    have r5 := (RB.out.below X5.out RB.out.lt).cell (i := 0) (v := .slice ov ss.length cv) (by rfl)
    have hxl : ys.length ≤ 1000000 := by
      rcases V1.out with ⟨_, rfl, _⟩ | ⟨hok, rfl, _⟩
      · simp
      · have := lookF_length hok.1.1 nm (chainP ss s.toNat)
        unfold lookP
        omega
    have hzz : (z' != z') = false := by simp
    have hyy : (y' != y') = false := by simp
    have hzz2 : (z' == z') = true := by simp
    have hyy2 : (y' == y') = true := by simp
    clear hw5 hb5 r4
    go_wp2_with fail
    refine (sgPlaces_any ys ys o1 o2 c1 c2 _ hxl hxl A1d.out A2d.out).mono ?_
    rintro e w6 ⟨t, rfl, ht, hb6⟩
    obtain rfl : t = true := ht.2 rfl
    have X6 := Lib.hid (belowS X5.out hb6)
    have A1e := Lib.hid (A1d.out.below hb6)
    have A2e := Lib.hid (A2d.out.below hb6)
    have r6 := (RB.out.below X6.out RB.out.lt).cell (i := 0) (v := .slice ov ss.length cv) (by rfl)
    clear ht hb6 r5
    cases b'
    · go_wp2_with fail
      refine (sgPlaces_any ys ys o1 o2 c1 c2 _ hxl hxl A1e.out A2e.out).mono ?_
      rintro e w7 ⟨t, rfl, ht, hb7⟩
      obtain rfl : t = true := ht.2 rfl
      have X7 := Lib.hid (belowS HA.out (belowS X6.out hb7))
      clear ht hb7
      go_wp2
      go_ret
      exact ⟨rfl, X7.out⟩
    · have HOK : Hid (ownOk ss s nm ∧ ys = (lookP ss s.toNat nm).places) := Lib.hid (by
        rcases V1.out with ⟨_, _, h2⟩ | ⟨hok, hy, _⟩
        · cases h2
        · exact ⟨hok, hy⟩)
      have HZY : Hid (z' = (lookP ss s.toNat nm).scope ∧ y' = (lookP ss s.toNat nm).way) := Lib.hid (by
        rcases W4.out with ⟨h1, _⟩ | ⟨_, h2⟩
        · exact absurd HOK.out.1 h1
        · exact h2)
      go_wp2_with fail
      refine (implChain_any ss HF.out ov cv s _ (HC.out.below X6.out (Nat.le_refl _)) ((HE.out.at HA.out).at X6.out).nodes).mono ?_
      rintro e w7 (⟨h1, -⟩ | ⟨-, vc, rfl, hr, hb7⟩)
      · exact absurd HOK.out.1.1 h1
      obtain ⟨oc, cc, rfl, hhi⟩ := holdsInts_of_owns hr
      have HI := Lib.hid hhi
      have X7 := Lib.hid (belowS X6.out hb7)
      have A1f := Lib.hid (A1e.out.below hb7)
      have HNL : Hid ((natInts (chainP ss s.toNat)).length = (chainP ss s.toNat).length) := Lib.hid (natInts_length _)
      have hcl : (natInts (chainP ss s.toNat)).length ≤ 1000 := by
        rw [HNL.out]
        have h1 := chain_length HOK.out.1.1.1.climbs s.toNat
        have h2 := HOK.out.1.1.2
        have h3 := HOK.out.1.1.1.count.2
        omega
      clear hr hhi hb7 r6 hzz hyy hzz2 hyy2
      go_wp2
      go_loopw [108] (fun i wr => ∃ k : Nat, i = .int .i64 k ∧ k ≤ (natInts (chainP ss s.toNat)).length ∧ Hid (lookF ss (impP ss) nm ((chainP ss s.toNat).drop k) = lookP ss s.toNat nm) ∧ Hid (Below w7.heap.size w7 wr)) (fun i _ => (natInts (chainP ss s.toNat)).length - (intOf i).toNat)
      case atStart => exact ⟨0, rfl, Nat.zero_le _, Lib.hid rfl, Lib.hid (Below.refl _ _)⟩
      case round =>
        obtain ⟨k, rfl, hk, HD, HW⟩ := hrel
        by_cases hlt : k < (natInts (chainP ss s.toNat)).length
        · obtain ⟨m, hm⟩ : ∃ m, (chainP ss s.toNat)[k]? = some m := ⟨_, List.getElem?_eq_getElem (by have := HNL.out; omega)⟩
          have hmI : (natInts (chainP ss s.toNat))[k]? = some (m : Int) := by unfold natInts; rw [List.getElem?_map, hm]; rfl
          obtain ⟨b1, f1, rfl, hb1, q1⟩ := (HI.out.below HW.out).at (by omega)
          have e0 := q1 k _ hmI
          have HDR : Hid (lookF ss (impP ss) nm (m :: (chainP ss s.toNat).drop (k + 1)) = lookP ss s.toNat nm) := Lib.hid (by
            obtain ⟨hlk, hmk⟩ := List.getElem?_eq_some_iff.1 hm
            rw [← HD.out, List.drop_eq_getElem_cons hlk, hmk])
          have HOM := Lib.hid (ownOk_in HOK.out.1 (List.mem_of_getElem? hm))
          have X8 := Lib.hid (belowS X7.out HW.out)
          have r8 := (RB.out.below X8.out RB.out.lt).cell (i := 0) (v := .slice ov ss.length cv) (by rfl)
          have A1g := Lib.hid (A1f.out.below HW.out)
          clear hm hmI hb1 q1
          go_wp2_with fail
          refine (implOwn_any ss HF.out ov cv (m : Int) nm _ (HC.out.below X8.out (Nat.le_refl _)) ((HE.out.at HA.out).at X8.out)).mono ?_
          intro e w9 hgot
          obtain ⟨o3, c3, xs3, b3, rfl, hv3, ha3, -, hb9⟩ := hgot.val
          have HX3 : Hid (xs3 = ownP ss m nm) := Lib.hid (by
            rcases hv3 with ⟨h1, _⟩ | ⟨_, h2, _⟩
            · exact absurd HOM.out h1
            · rw [h2, Int.toNat_natCast])
          have A3 := Lib.hid ha3
          have X9 := Lib.hid (belowS X8.out hb9)
          have HW9 := Lib.hid (belowS HW.out hb9)
          have A1h := Lib.hid (A1g.out.below hb9)
          have r9 := (RB.out.below X9.out RB.out.lt).cell (i := 0) (v := .slice ov ss.length cv) (by rfl)
          clear hgot hv3 ha3 hb9 r8 e0
          go_wp2_with fail
          refine (implImportedOf_any ss HF.out ov cv (m : Int) nm _ (HC.out.below X9.out (Nat.le_refl _)) ((HE.out.at HA.out).at X9.out)).mono ?_
          intro e w10 hgot
          obtain ⟨o4, c4, xs4, b4, rfl, hv4, ha4, -, hb10⟩ := hgot.val
          have HX4 : Hid (xs4 = fromP ss (impP ss m) nm) := Lib.hid (by
            rcases hv4 with ⟨h1, _⟩ | ⟨_, h2, _⟩
            · exact absurd HOM.out h1
            · rw [h2, Int.toNat_natCast])
          have A4 := Lib.hid ha4
          have A3b := Lib.hid (A3.out.below hb10)
          have X10 := Lib.hid (belowS X9.out hb10)
          have HW10 := Lib.hid (belowS HW9.out hb10)
          have A1i := Lib.hid (A1h.out.below hb10)
          clear hgot hv4 ha4 hb10 r9
          by_cases ho : 0 < xs3.length
          · have hoI : (0 : Int) < (xs3.length : Int) := by omega
            have hlk : lookP ss s.toNat nm = ⟨(m : Int), 1, ownP ss m nm⟩ := by rw [← HDR.out]; exact lookF_cons_own (by rw [← HX3.out]; exact ho)
            obtain rfl : ys = xs3 := by rw [HOK.out.2, hlk, HX3.out]
            obtain rfl : z' = (m : Int) := by rw [HZY.out.1, hlk]
            obtain rfl : y' = 1 := by rw [HZY.out.2, hlk]
            clear hlk ho
            go_wp2_with fail
            refine (sgPlaces_any ys ys o3 o1 c3 c1 _ hxl hxl A3b.out A1i.out).mono ?_
            rintro e w11 ⟨t, rfl, ht, hb11⟩
            obtain rfl : t = true := ht.2 rfl
            have X11 := Lib.hid (belowS HA.out (belowS X10.out hb11))
            clear ht hb11
            go_wp2
            go_ret
            exact ⟨rfl, X11.out⟩
          · have hoI : ¬ (0 : Int) < (xs3.length : Int) := by omega
            by_cases hf : 0 < xs4.length
            · have hfI : (0 : Int) < (xs4.length : Int) := by omega
              have hlk : lookP ss s.toNat nm = ⟨(m : Int), 2, fromP ss (impP ss m) nm⟩ := by rw [← HDR.out]; exact lookF_cons_from (by rw [← HX3.out]; exact ho) (by rw [← HX4.out]; exact hf)
              obtain rfl : ys = xs4 := by rw [HOK.out.2, hlk, HX4.out]
              obtain rfl : z' = (m : Int) := by rw [HZY.out.1, hlk]
              obtain rfl : y' = 2 := by rw [HZY.out.2, hlk]
              clear hlk ho hf
              go_wp2_with fail
              refine (sgPlaces_any ys ys o4 o1 c4 c1 _ hxl hxl A4.out A1i.out).mono ?_
              rintro e w11 ⟨t, rfl, ht, hb11⟩
              obtain rfl : t = true := ht.2 rfl
              have X11 := Lib.hid (belowS HA.out (belowS X10.out hb11))
              clear ht hb11
              go_wp2
              go_ret
              exact ⟨rfl, X11.out⟩
            · have hfI : ¬ (0 : Int) < (xs4.length : Int) := by omega
              have HDN : Hid (lookF ss (impP ss) nm ((chainP ss s.toNat).drop (k + 1)) = lookP ss s.toNat nm) := Lib.hid (by rw [← HDR.out]; exact (lookF_cons_next (by rw [← HX3.out]; exact ho) (by rw [← HX4.out]; exact hf)).symm)
              clear ho hf
              go_wp2
              go_roundw
              case rel => exact ⟨k + 1, by go_num, by omega, HDN, HW10⟩
              case measure => simp only [intOf]; omega
        · obtain rfl : k = (natInts (chainP ss s.toNat)).length := by omega
          have hlk : lookP ss s.toNat nm = ⟨-1, 0, []⟩ := by rw [← HD.out, HNL.out, List.drop_length]; rfl
          obtain rfl : ys = [] := by rw [HOK.out.2, hlk]
          obtain rfl : z' = -1 := by rw [HZY.out.1, hlk]
          obtain rfl : y' = 0 := by rw [HZY.out.2, hlk]
          have X11 := Lib.hid (belowS HA.out (belowS X7.out HW.out))
          clear hlk
          go_wp2
          go_ret
          exact ⟨rfl, X11.out⟩
end Go.Proofs.YtmfglfhloahmlaaDoor
namespace Go.Proofs.YtmfglfhloahmlaaDoor
open Go Go.RowKit Go.ChangeShapes Go.WideShapes Go.Deep
theorem cells5 : Tryd.prog.cellsOf 5 = 1 := by kernel_rfl
set_option maxRecDepth 100000 in
theorem open_code {H : Type} {enc : TypeId × Value → H} {W : World} {base : Nat} {v1 : Value} {d1 : DataW H} {p1 : List MemPlace} (hval : Value.okWide Tryd.prog W .any base 57 v1) (h1 : DataW.Trod enc Tryd.prog W 0 (fun _ => true) true 57 v1 d1 p1) :
    ∃ oa len cap, v1 = .slice oa len cap ∧ HoldsBytes W oa len ∧ len ≤ cap := by
  obtain ⟨a1, len, cap, rfl⟩ := okWide_slice Tryd.underlying57 hval
  obtain ⟨fuel, hf⟩ := h1
  rcases open_ints Tryd.underlying57 Tryd.underlying5 cells5 hf with ⟨hcs, hx⟩ | ⟨a, len', cap', zs, hcs, _, hl, hm, hz, hx, hcell, hwz⟩
  · simp [Value.cells] at hcs
    obtain ⟨rfl, rfl, rfl⟩ := hcs
    exact ⟨none, 0, 0, rfl, .inl rfl, Nat.le_refl _⟩
  · simp [Value.cells] at hcs
    obtain ⟨rfl, rfl, rfl⟩ := hcs
    simp only [if_true] at hz
    refine ⟨some a, len, cap, rfl, ?_, hl⟩
    by_cases h0 : len = 0
    · exact .inl h0
    · obtain ⟨ab, ao, spot⟩ := a
      have hspot : spot = none := by simpa [Addr.add] using World.cell?_spot (hcell 0 (by omega))
      subst hspot
      have c0 := hcell 0 (by omega)
      refine .inr ⟨ab, ao, rfl, ?_, fun j hj => ?_⟩
      · rw [Addr.add_lit] at c0
        exact World.block_lt_of_cell? _ _ c0
      · have hcj := hcell j (by omega)
        rw [Addr.add_lit] at hcj
        have hb := range_u8 hwz j
        rw [← List.getD_eq_getElem?_getD] at hb
        obtain ⟨z, hz'⟩ : ∃ z, zs.getD j 0 = z := ⟨_, rfl⟩
        rw [hz'] at hb hcj
        have hzz : ((z.toNat : Nat) : Int) = z := Int.toNat_of_nonneg hb.1
        exact ⟨z.toNat, by omega, by rw [hcj, hzz]⟩
end Go.Proofs.YtmfglfhloahmlaaDoor
