/-
  The walk of the law FnPlaceText: at every two codes it returns true, and only new memory is written. Conditions: the codes' memory holds bytes; the package-level errors hold errors; the table of powers of ten is whole.
-/
import Derived.Test.YtjogfagjcpcihaaGreatDoorWDrawPlX
import Derived.Test.YtjogfagjcpcihaaGreatDoorPlcTxtX
import Derived.Test.YtjogfagjcpcihaaGreatDoorWImplPlaceX
import Derived.Test.YtjogfagjcpcihaaGreatDoorJAX
import Derived.Test.YtjogfagjcpcihaaGreatDoorWImplPlacesX
import Derived.Test.YtjogfagjcpcihaaGreatDoorJBX
import Derived.Test.YtjogfagjcpcihaaGreatDoorWSameX
namespace Go.Proofs.YtjogfagjcpcihaaGreatDoor
open Go Go.RowKit Sg
theorem bytes_eqP {a b : ByteArray} (h : a.data.toList = b.data.toList) : a = b := by
  apply ByteArray.ext; exact Array.toList_inj.1 h
theorem small_i64 {p : Int × Int} (h : (0 ≤ p.1 ∧ p.1 < 100) ∧ 0 ≤ p.2 ∧ p.2 < 100) : I64 p.1 ∧ I64 p.2 := by unfold I64; omega
theorem placeOf_i64 {l : List UInt8} {a b : Int} (h : placeOf l = (true, a, b)) : I64 a ∧ I64 b := by
  unfold placeOf at h
  split at h
  · split at h
    · rename_i hc
      simp only [Bool.and_eq_true] at hc
      simp only [Prod.mk.injEq, true_and] at h
      have h1 := canon_lt hc.1
      have h2 := canon_lt hc.2
      unfold I64
      omega
    · cases h
  · cases h
theorem one_holds {W : World} {g : Nat} {a b : Int} (h : Row W g 26 [.int .i64 a, .int .i64 b]) : HoldsPlaces W g 0 [(a, b)] := fun i p hp => by
  obtain rfl : i = 0 := by have := (List.getElem?_eq_some_iff.1 hp).1; simpa using this
  cases hp
  exact ⟨h.cell (i := 0) (by rfl), h.cell (i := 1) (by rfl)⟩
theorem item_got_same {ss : List Sc} {a b : Int} {x y : It} {o p : Bool} (h : (Valid ss ∧ itemAtP ss a b = some x ∧ o = true) ∨ (¬ (Valid ss ∧ (itemAtP ss a b).isSome = true) ∧ x = zeroIt ∧ o = false)) (k : (Valid ss ∧ itemAtP ss a b = some y ∧ p = true) ∨ (¬ (Valid ss ∧ (itemAtP ss a b).isSome = true) ∧ y = zeroIt ∧ p = false)) : x = y ∧ o = p := by
  rcases h with ⟨h1, h2, rfl⟩ | ⟨h1, rfl, rfl⟩ <;> rcases k with ⟨k1, k2, rfl⟩ | ⟨k1, rfl, rfl⟩
  · rw [h2] at k2; cases k2; exact ⟨rfl, rfl⟩
  · exact absurd ⟨h1, by rw [h2]; rfl⟩ k1
  · exact absurd ⟨k1, by rw [k2]; rfl⟩ h1
  · exact ⟨rfl, rfl⟩
/-- A list's text, whether the list has memory or not. -/
theorem implTexts (ps : List (Int × Int)) (oa : Option Addr) (cap : Nat) (w : World) (hg : TabGlobs w) (hn : ps.length ≤ 1048576) (hp : ∀ p ∈ ps, I64 p.1 ∧ I64 p.2) (ha : ArgPlaces w oa ps) :
    Calls Tryz.prog 8 #[.slice oa ps.length cap] w fun e w' => ∃ T : ByteArray, e = .returned (.string T) ∧ T.data.toList = placesText ps ∧ Below w.heap.size w w' := by
  rcases ha with rfl | ⟨b, off, rfl, hb, hc⟩
  · have C : Calls Tryz.prog 38 #[.slice oa 0 cap, .func (.func 39) #[] #[]] w fun e w' => e = .returned (.string ⟨#[45]⟩) ∧ w' = w := by
      go_enter Tryz.func38, Tryz.ntmps38
      go_wp2
      go_ret
      exact ⟨rfl, rfl⟩
    clear hg hn hp
    go_enter Tryz.func8, Tryz.ntmps8
    go_wp2_with fail
    refine C.mono ?_
    rintro e w1 ⟨rfl, rfl⟩
    go_wp2
    go_ret
    exact ⟨_, rfl, rfl, Below.refl _ _⟩
  · exact implPlaces_any ps b off cap w hg hn hp hb hc
set_option maxRecDepth 100000 in
theorem specTexts (ps : List (Int × Int)) (oa : Option Addr) (cap : Nat) (w : World) (hn : ps.length ≤ 1048576) (hp : ∀ p ∈ ps, I64 p.1 ∧ I64 p.2) (ha : ArgPlaces w oa ps) :
    Calls Tryz.prog 14 #[.slice oa ps.length cap] w fun e w' => ∃ T : ByteArray, e = .returned (.string T) ∧ T.data.toList = placesText ps ∧ Below w.heap.size w w' := by
  rcases ha with rfl | ⟨b, off, rfl, hb, hc⟩
  · clear hn hp
    go_enter Tryz.func14, Tryz.ntmps14
    go_wp2
    go_loopw [3, 8] (fun s i wr => s = .string ⟨#[]⟩ ∧ i = .int .i64 0 ∧ wr = w) (fun _ _ _ => 0)
    case atStart => exact ⟨rfl, rfl, rfl⟩
    case round =>
      obtain ⟨rfl, rfl, rfl⟩ := hrel
      go_wp2
      go_ret
      exact ⟨_, rfl, rfl, Below.refl _ _⟩
  · exact specPlaces_any ps b off cap w hn hp hb hc
set_option maxRecDepth 100000 in
set_option maxHeartbeats 16000000 in
theorem lawPlaceText {w : World} {oa ob : Option Addr} {len cap len2 cap2 : Nat} (h : HoldsBytes w oa len) (hlc : len ≤ cap) (h2 : HoldsBytes w ob len2) (hlc2 : len2 ≤ cap2) (hE : TreeErrs w) (hg : NumGlobs w) (hm : CutGlobs w) :
    Calls Tryz.prog 3 #[.slice oa len cap, .slice ob len2 cap2] w fun e w' => e = .returned (.bool true) ∧ Below w.heap.size w w' := by
  by_cases hn : (1048576 : Int) < (len : Int)
  · clear h hE h2 hg hm
    go_enter Tryz.func3, Tryz.ntmps3
    go_wp2
    go_ret
    exact ⟨rfl, Below.refl _ _⟩
  by_cases hn2 : (1048576 : Int) < (len2 : Int)
  · clear h hE h2 hg hm
    go_enter Tryz.func3, Tryz.ntmps3
    go_wp2
    go_ret
    exact ⟨rfl, Below.refl _ _⟩
  have C := Lib.hid (drawPlaces_any h (by omega) hlc)
  have HE := Lib.hid hE
  have H1 := Lib.hid (And.intro h (And.intro hlc (show len ≤ 2 ^ 62 by omega)))
  have H2 := Lib.hid (And.intro h2 (And.intro hlc2 (show len2 ≤ 2 ^ 62 by omega)))
  have HG := Lib.hid (And.intro hg hm)
  clear h hE hlc h2 hlc2 hg hm
  go_enter Tryz.func3, Tryz.ntmps3
  go_wp2_with fail
  refine C.out.mono ?_
  rintro e w1 ⟨ps, o1, c1, rfl, ha1, hl1, hp1, hb1⟩
  have B1 := Lib.hid hb1
  have A1 := Lib.hid ha1
  have P1 := Lib.hid hp1
  have HTP : Hid (∀ p ∈ ps, I64 p.1 ∧ I64 p.2) := Lib.hid (fun p hp => small_i64 (hp1 p hp))
  clear ha1 hb1 hp1
  go_wp2
  go_loopw [34] (fun i wr => ∃ k : Nat, i = .int .i64 k ∧ k ≤ ps.length ∧ Hid (Below w1.heap.size w1 wr)) (fun i _ => ps.length - (intOf i).toNat)
  case atStart => exact ⟨0, rfl, Nat.zero_le _, Lib.hid (Below.refl _ _)⟩
  case round =>
    obtain ⟨k, rfl, hk, HW⟩ := hrel
    have B2 := Lib.hid (belowS B1.out HW.out)
    have A2 := Lib.hid (A1.out.below HW.out)
    by_cases hlt : k < ps.length
    · obtain ⟨q, hq⟩ : ∃ q, ps[k]? = some q := ⟨_, List.getElem?_eq_getElem hlt⟩
      have hq0 := P1.out q (List.mem_of_getElem? hq)
      obtain ⟨qa, qb⟩ := q
      have HQ := Lib.hid hq0
      obtain ⟨bl, offl, rfl, hbl, hcl⟩ := A2.out.at (by omega)
      obtain ⟨k0, k1⟩ := hcl k (qa, qb) hq
      have R7 := Lib.hid ((Row.new wr [.int .i64 qa, .int .i64 qb] 26).alloc (.cells #[.int .i64 qa, .int .i64 qb] 26))
      have R7a := (Row.new wr [.int .i64 qa, .int .i64 qb] 26).cell (i := 0) (v := .int .i64 qa) (by rfl)
      have R7b := (Row.new wr [.int .i64 qa, .int .i64 qb] 26).cell (i := 1) (v := .int .i64 qb) (by rfl)
      have R8 := Row.new (wr.alloc (.cells #[.int .i64 qa, .int .i64 qb] 26)) [.int .i64 qa, .int .i64 qb] 26
      rw [World.size_alloc] at R8
      have HO := Lib.hid (one_holds R8)
      have hbx := ((Below.refl wr.heap.size wr).alloc (Nat.le_refl _) (.cells #[.int .i64 qa, .int .i64 qb] 26)).alloc (by simp) (.cells #[.int .i64 qa, .int .i64 qb] 26)
      have B3 := Lib.hid (belowS B2.out hbx)
      have HW3 := Lib.hid (HW.out.trans (hbx.mono HW.out.size))
      clear hq hq0 hcl hbl hbx R8
      go_wp2_with fail
      refine (implPlaces_any [(qa, qb)] _ 0 1 _ (HG.out.1.tabs.below B3.out HG.out.1.tabs.size) (by simp) (fun p hp => by rw [List.mem_singleton.1 hp]; exact small_i64 HQ.out) (by simp) HO.out).mono ?_
      rintro e w4 ⟨T, rfl, hT, hb4⟩
      have HPO : Hid (placeOf T.data.toList = (true, qa, qb) ∧ T.size ≤ 1048576) := Lib.hid (by
        rw [hT, placesText_one]
        refine ⟨placeOf_text HQ.out.1.1 HQ.out.1.2 HQ.out.2.1 HQ.out.2.2, ?_⟩
        have h1 := pText_len (p := (qa, qb)) (small_i64 HQ.out).1 (small_i64 HQ.out).2
        have h2 := congrArg List.length hT
        rw [placesText_one, Array.length_toList] at h2
        have h3 : T.size = T.data.size := rfl
        omega)
      have B4 := Lib.hid (B3.out.trans (hb4.mono B3.out.size))
      have HW4 := Lib.hid (HW3.out.trans (hb4.mono HW3.out.size))
      have R74 := Lib.hid (R7.out.below hb4 R7.out.lt)
      clear hT hb4 k0 k1 R7a R7b
      go_wp2_with fail
      refine (parsePlace_ok T _ HPO.out.2 (HG.out.1.below B4.out HG.out.1.tabs.size) (HG.out.2.below B4.out HG.out.1.tabs.size) qa qb HPO.out.1).mono ?_
      rintro e w5 ⟨rfl, hb5⟩
      have hb6 := hb5.trans (((Below.refl w5.heap.size w5).alloc (Nat.le_refl _) (.cells #[.int .i64 qa, .int .i64 qb] 26)).mono hb5.size)
      have R75 := R74.out.below hb6 R74.out.lt
      have r70 := R75.cell (i := 0) (v := .int .i64 qa) (by rfl)
      have r71 := R75.cell (i := 1) (v := .int .i64 qb) (by rfl)
      have r80 := (Row.new w5 [.int .i64 qa, .int .i64 qb] 26).cell (i := 0) (v := .int .i64 qa) (by rfl)
      have r81 := (Row.new w5 [.int .i64 qa, .int .i64 qb] 26).cell (i := 1) (v := .int .i64 qb) (by rfl)
      have HW6 := Lib.hid (HW4.out.trans (hb6.mono HW4.out.size))
      clear hb5 hb6 R75
      go_wp2
      go_roundw
      case rel => exact ⟨k + 1, by go_num, by omega, HW6⟩
      case measure => simp only [intOf]; omega
    · obtain rfl : k = ps.length := by omega
      go_wp2_with fail
      refine (drawParse_any (H1.out.1.below B2.out) H1.out.2.2 H1.out.2.1).mono ?_
      rintro e w3 ⟨S, rfl, hS, hb3⟩
      have B3 := Lib.hid (belowS B2.out hb3)
      have A3 := Lib.hid (A2.out.below hb3)
      obtain ⟨ok, a, b, hpo⟩ : ∃ ok a b, placeOf S.data.toList = (ok, a, b) := ⟨_, _, _, rfl⟩
      have HPO := Lib.hid hpo
      have CI := implPlace_any S w3 (by omega) (HG.out.1.below B3.out HG.out.1.tabs.size) (HG.out.2.below B3.out HG.out.1.tabs.size)
      rw [hpo] at CI
      have CI := Lib.hid CI
      have CS : ∀ W, Calls Tryz.prog 10 #[.string S] W fun e w' => e = .returned (.tuple #[.agg #[.int .i64 a, .int .i64 b], .bool ok]) ∧ Below W.heap.size W w' := fun W => by
        have h1 := specPlace_any S W (by omega)
        rw [hpo] at h1
        exact h1
      have CS := Lib.hid CS
      clear hb3 hpo
      go_wp2_with fail
      refine CI.out.mono ?_
      rintro e w4 ⟨rfl, hb4⟩
      have hb5 := hb4.trans (((Below.refl w4.heap.size w4).alloc (Nat.le_refl _) (.cells #[.int .i64 a, .int .i64 b] 26)).mono hb4.size)
      have R11 := Lib.hid (Row.new w4 [.int .i64 a, .int .i64 b] 26)
      have B5 := Lib.hid (belowS B3.out hb5)
      have A5 := Lib.hid (A3.out.below hb5)
      clear hb4 hb5
      go_wp2_with fail
      refine (CS.out _).mono ?_
      rintro e w6 ⟨rfl, hb6⟩
      generalize w4.alloc (.cells #[.int .i64 a, .int .i64 b] 26) = w5 at *
      have hb7 := hb6.trans (((Below.refl w6.heap.size w6).alloc (Nat.le_refl _) (.cells #[.int .i64 a, .int .i64 b] 26)).mono hb6.size)
      have R13 := Lib.hid (Row.new w6 [.int .i64 a, .int .i64 b] 26)
      have R11a := Lib.hid (R11.out.below hb7 R11.out.lt)
      have B7 := Lib.hid (belowS B5.out hb7)
      have A7 := Lib.hid (A5.out.below hb7)
      clear hb6 hb7
      go_wp2_with fail
      refine (drawItemAt_any (H2.out.1.below B7.out) H2.out.2.2 H2.out.2.1).mono ?_
      rintro e w8 ⟨ss, ov, cv, c, d, rfl, hh, hl, hcI, hdI, hb8⟩
      generalize w6.alloc (.cells #[.int .i64 a, .int .i64 b] 26) = w7 at *
      have HF := Lib.hid (hl.fair (by omega))
      have HWF : Hid ((Lit.int .i64 c).wf = true ∧ (Lit.int .i64 d).wf = true) := Lib.hid ⟨WalkArith.wf_i64 (by unfold I64 at hcI; omega), WalkArith.wf_i64 (by unfold I64 at hdI; omega)⟩
      have hbA := ((Below.refl w8.heap.size w8).alloc (Nat.le_refl _) (.cells #[.slice ov ss.length cv] 33)).alloc (by simp) (.cells #[.int .i64 c, .int .i64 d] 26)
      have hb9 := belowS hb8 hbA
      have HC := Lib.hid (hh.below hbA (Nat.le_refl _))
      have RG := Lib.hid ((Row.new w8 [.slice ov ss.length cv] 33).alloc (.cells #[.int .i64 c, .int .i64 d] 26))
      have RQ := Row.new (w8.alloc (.cells #[.slice ov ss.length cv] 33)) [.int .i64 c, .int .i64 d] 26
      rw [World.size_alloc] at RQ
      have RQ := Lib.hid RQ
      have R11b := Lib.hid (R11a.out.below hb9 R11a.out.lt)
      have R13b := Lib.hid (R13.out.below hb9 R13.out.lt)
      have B9 := Lib.hid (belowS B7.out hb9)
      have A9 := Lib.hid (A7.out.below hb9)
      have g1 := RG.out.cell (i := 0) (v := .slice ov ss.length cv) (by rfl)
      have g2 := RQ.out.cell (i := 0) (v := .int .i64 c) (by rfl)
      have g3 := RQ.out.cell (i := 1) (v := .int .i64 d) (by rfl)
      clear hh hl hcI hdI hb8 hb9 hbA
      go_wp2_with fail
      refine (implItemAt_any ss HF.out ov cv c d HWF.out.1 HWF.out.2 _ HC.out (HE.out.at B9.out)).mono ?_
      rintro e w10 ⟨x, fine, rfl, hx, hb10⟩
      generalize (w8.alloc (.cells #[.slice ov ss.length cv] 33)).alloc (.cells #[.int .i64 c, .int .i64 d] 26) = w9 at *
      have HX := Lib.hid hx
      have hb11 := hb10.trans (((Below.refl w10.heap.size w10).alloc (Nat.le_refl _) (.cells #[.int .i64 x.kind, .string x.name, .int .i64 x.scope] 37)).mono hb10.size)
      have R17 := Lib.hid (Row.new w10 [.int .i64 x.kind, .string x.name, .int .i64 x.scope] 37)
      have R11c := Lib.hid (R11b.out.below hb11 R11b.out.lt)
      have R13c := Lib.hid (R13b.out.below hb11 R13b.out.lt)
      have HCb := Lib.hid (HC.out.below hb11 (Nat.le_refl _))
      have B11 := Lib.hid (belowS B9.out hb11)
      have A11 := Lib.hid (A9.out.below hb11)
      have g1 := (RG.out.below hb11 RG.out.lt).cell (i := 0) (v := .slice ov ss.length cv) (by rfl)
      have g2 := (RQ.out.below hb11 RQ.out.lt).cell (i := 0) (v := .int .i64 c) (by rfl)
      have g3 := (RQ.out.below hb11 RQ.out.lt).cell (i := 1) (v := .int .i64 d) (by rfl)
      clear hx hb10 hb11
      unfold itV
      go_wp2_with fail
      refine (specItemAt_any ss HF.out.fits ov cv c d _ HCb.out).mono ?_
      rintro e w12 ⟨x', fine', rfl, hx', hb12⟩
      obtain ⟨rfl, rfl⟩ := item_got_same hx' HX.out
      generalize w10.alloc (.cells #[.int .i64 x'.kind, .string x'.name, .int .i64 x'.scope] 37) = w11 at *
      have hb13 := hb12.trans (((Below.refl w12.heap.size w12).alloc (Nat.le_refl _) (.cells #[.int .i64 x'.kind, .string x'.name, .int .i64 x'.scope] 37)).mono hb12.size)
      have R19 := Lib.hid (Row.new w12 [.int .i64 x'.kind, .string x'.name, .int .i64 x'.scope] 37)
      have R17a := Lib.hid (R17.out.below hb13 R17.out.lt)
      have R11d := Lib.hid (R11c.out.below hb13 R11c.out.lt)
      have R13d := Lib.hid (R13c.out.below hb13 R13c.out.lt)
      have B13 := Lib.hid (belowS B11.out hb13)
      have A13 := Lib.hid (A11.out.below hb13)
      clear hx' hb12 hb13 g1 g2 g3
      unfold itV
      go_wp2_with fail
      refine (drawPlaces_any (H2.out.1.below B13.out) H2.out.2.2 H2.out.2.1).mono ?_
      rintro e w14 ⟨qs, o2, c2, rfl, ha2, hl2, hp2, hb14⟩
      generalize w12.alloc (.cells #[.int .i64 x'.kind, .string x'.name, .int .i64 x'.scope] 37) = w13 at *
      have R19a := Lib.hid (R19.out.below hb14 R19.out.lt)
      have R17b := Lib.hid (R17a.out.below hb14 R17a.out.lt)
      have R11e := Lib.hid (R11d.out.below hb14 R11d.out.lt)
      have R13e := Lib.hid (R13d.out.below hb14 R13d.out.lt)
      have B14 := Lib.hid (belowS B13.out hb14)
      have A14 := Lib.hid (A13.out.below hb14)
      have AQ := Lib.hid ha2
      have HTQ : Hid (∀ p ∈ qs, I64 p.1 ∧ I64 p.2) := Lib.hid (fun p hp => small_i64 (hp2 p hp))
      have hokk : (ok == ok) = true := by simp
      have hfin : (fine' == fine') = true := by simp
      have hnm : (x'.name.toList == x'.name.toList) = true := by simp
      have e0 := R11e.out.cell (i := 0) (v := .int .i64 a) (by rfl)
      have e1 := R11e.out.cell (i := 1) (v := .int .i64 b) (by rfl)
      have e2 := R13e.out.cell (i := 0) (v := .int .i64 a) (by rfl)
      have e3 := R13e.out.cell (i := 1) (v := .int .i64 b) (by rfl)
      clear ha2 hp2 hb14
      cases ok
      · have f0 := R17b.out.cell (i := 0) (v := .int .i64 x'.kind) (by rfl)
        have f1 := R17b.out.cell (i := 1) (v := .string x'.name) (by rfl)
        have f2 := R17b.out.cell (i := 2) (v := .int .i64 x'.scope) (by rfl)
        have h0 := R19a.out.cell (i := 0) (v := .int .i64 x'.kind) (by rfl)
        have h1 := R19a.out.cell (i := 1) (v := .string x'.name) (by rfl)
        have h2 := R19a.out.cell (i := 2) (v := .int .i64 x'.scope) (by rfl)
        go_wp2_with fail
        refine (implTexts ps o1 c1 _ (HG.out.1.tabs.below B14.out HG.out.1.tabs.size) (by omega) HTP.out A14.out).mono ?_
        rintro e v1 ⟨T1, rfl, hT1, hv1⟩
        have C1 := Lib.hid (belowS B14.out hv1)
        have D1 := Lib.hid (A14.out.below hv1)
        have E1 := Lib.hid (AQ.out.below hv1)
        have K1 := Lib.hid hT1
        clear hT1 hv1 f0 f1 f2 h0 h1 h2
        go_wp2_with fail
        refine (specTexts ps o1 c1 _ (by omega) HTP.out D1.out).mono ?_
        rintro e v2 ⟨T2, rfl, hT2, hv2⟩
        obtain rfl : T2 = T1 := bytes_eqP (hT2.trans K1.out.symm)
        have C2 := Lib.hid (belowS C1.out hv2)
        have D2 := Lib.hid (D1.out.below hv2)
        have E2 := Lib.hid (E1.out.below hv2)
        have htt : (T2.toList == T2.toList) = true := by simp
        clear hT2 hv2
        go_wp2_with fail
        refine (implTexts ps o1 c1 _ (HG.out.1.tabs.below C2.out HG.out.1.tabs.size) (by omega) HTP.out D2.out).mono ?_
        rintro e v3 ⟨T3, rfl, hT3, hv3⟩
        obtain rfl : T3 = T2 := bytes_eqP (hT3.trans K1.out.symm)
        have C3 := Lib.hid (belowS C2.out hv3)
        have D3 := Lib.hid (D2.out.below hv3)
        have E3 := Lib.hid (E2.out.below hv3)
        clear hT3 hv3
        go_wp2_with fail
        refine (implTexts qs o2 c2 _ (HG.out.1.tabs.below C3.out HG.out.1.tabs.size) (by omega) HTQ.out E3.out).mono ?_
        rintro e v4 ⟨T4, rfl, hT4, hv4⟩
        have C4 := Lib.hid (belowS C3.out hv4)
        have D4 := Lib.hid (D3.out.below hv4)
        have E4 := Lib.hid (E3.out.below hv4)
        have K4 := Lib.hid hT4
        clear hT4 hv4
        go_wp2_with fail
        refine (sgPlaces_any ps qs o1 o2 c1 c2 _ (by omega) (by omega) D4.out E4.out).mono ?_
        rintro e v5 ⟨t, rfl, ht, hv5⟩
        have C5 := Lib.hid (belowS C4.out hv5)
        have HT : Hid (((T3.toList == T4.toList) == t) = true) := Lib.hid (by
          rw [beq_iff_eq, Bool.eq_iff_iff, ht, beq_iff_eq, ByteArray.toList_eq, ByteArray.toList_eq, K1.out, K4.out]
          exact ⟨placesText_inj, fun e => by rw [e]⟩)
        clear ht hv5
        go_wp2
        go_ret
        exact ⟨congrArg (fun b => Ending.returned (Value.bool b)) HT.out, C5.out⟩
      · have hpp := placeOf_i64 HPO.out
        have hpt := text_placeOf HPO.out
        have HPP := Lib.hid (And.intro hpp hpt)
        have RN := Row.new w14 [.int .i64 a, .int .i64 b] 26
        have HO := Lib.hid (one_holds RN)
        have hbn := (Below.refl w14.heap.size w14).alloc (Nat.le_refl _) (.cells #[.int .i64 a, .int .i64 b] 26)
        have B15 := Lib.hid (belowS B14.out hbn)
        have XN := Lib.hid hbn
        clear hpp hpt RN hbn
        go_wp2_with fail
        refine (implPlaces_any [(a, b)] _ 0 1 _ (HG.out.1.tabs.below B15.out HG.out.1.tabs.size) (by simp) (fun p hp => by rw [List.mem_singleton.1 hp]; exact HPP.out.1) (by simp) HO.out).mono ?_
        rintro e w16 ⟨T0, rfl, hT0, hb16⟩
        obtain rfl : T0 = S := bytes_eqP (by rw [hT0, placesText_one]; exact HPP.out.2)
        have hbz := belowS XN.out hb16
        have B16 := Lib.hid (belowS B14.out hbz)
        have A16 := Lib.hid (A14.out.below hbz)
        have AQ16 := Lib.hid (AQ.out.below hbz)
        have R17z := R17b.out.below hbz R17b.out.lt
        have R19z := R19a.out.below hbz R19a.out.lt
        have hss : (T0.toList == T0.toList) = true := by simp
        clear hT0 hb16 hbz e0 e1 e2 e3
        have f0 := R17z.cell (i := 0) (v := .int .i64 x'.kind) (by rfl)
        have f1 := R17z.cell (i := 1) (v := .string x'.name) (by rfl)
        have f2 := R17z.cell (i := 2) (v := .int .i64 x'.scope) (by rfl)
        have h0 := R19z.cell (i := 0) (v := .int .i64 x'.kind) (by rfl)
        have h1 := R19z.cell (i := 1) (v := .string x'.name) (by rfl)
        have h2 := R19z.cell (i := 2) (v := .int .i64 x'.scope) (by rfl)
        clear R17z R19z
        go_wp2_with fail
        refine (implTexts ps o1 c1 _ (HG.out.1.tabs.below B16.out HG.out.1.tabs.size) (by omega) HTP.out A16.out).mono ?_
        rintro e v1 ⟨T1, rfl, hT1, hv1⟩
        have C1 := Lib.hid (belowS B16.out hv1)
        have D1 := Lib.hid (A16.out.below hv1)
        have E1 := Lib.hid (AQ16.out.below hv1)
        have K1 := Lib.hid hT1
        clear hT1 hv1 f0 f1 f2 h0 h1 h2
        go_wp2_with fail
        refine (specTexts ps o1 c1 _ (by omega) HTP.out D1.out).mono ?_
        rintro e v2 ⟨T2, rfl, hT2, hv2⟩
        obtain rfl : T2 = T1 := bytes_eqP (hT2.trans K1.out.symm)
        have C2 := Lib.hid (belowS C1.out hv2)
        have D2 := Lib.hid (D1.out.below hv2)
        have E2 := Lib.hid (E1.out.below hv2)
        have htt : (T2.toList == T2.toList) = true := by simp
        clear hT2 hv2
        go_wp2_with fail
        refine (implTexts ps o1 c1 _ (HG.out.1.tabs.below C2.out HG.out.1.tabs.size) (by omega) HTP.out D2.out).mono ?_
        rintro e v3 ⟨T3, rfl, hT3, hv3⟩
        obtain rfl : T3 = T2 := bytes_eqP (hT3.trans K1.out.symm)
        have C3 := Lib.hid (belowS C2.out hv3)
        have D3 := Lib.hid (D2.out.below hv3)
        have E3 := Lib.hid (E2.out.below hv3)
        clear hT3 hv3
        go_wp2_with fail
        refine (implTexts qs o2 c2 _ (HG.out.1.tabs.below C3.out HG.out.1.tabs.size) (by omega) HTQ.out E3.out).mono ?_
        rintro e v4 ⟨T4, rfl, hT4, hv4⟩
        have C4 := Lib.hid (belowS C3.out hv4)
        have D4 := Lib.hid (D3.out.below hv4)
        have E4 := Lib.hid (E3.out.below hv4)
        have K4 := Lib.hid hT4
        clear hT4 hv4
        go_wp2_with fail
        refine (sgPlaces_any ps qs o1 o2 c1 c2 _ (by omega) (by omega) D4.out E4.out).mono ?_
        rintro e v5 ⟨t, rfl, ht, hv5⟩
        have C5 := Lib.hid (belowS C4.out hv5)
        have HT : Hid (((T3.toList == T4.toList) == t) = true) := Lib.hid (by
          rw [beq_iff_eq, Bool.eq_iff_iff, ht, beq_iff_eq, ByteArray.toList_eq, ByteArray.toList_eq, K1.out, K4.out]
          exact ⟨placesText_inj, fun e => by rw [e]⟩)
        clear ht hv5
        go_wp2
        go_ret
        exact ⟨congrArg (fun b => Ending.returned (Value.bool b)) HT.out, C5.out⟩
end Go.Proofs.YtjogfagjcpcihaaGreatDoor
