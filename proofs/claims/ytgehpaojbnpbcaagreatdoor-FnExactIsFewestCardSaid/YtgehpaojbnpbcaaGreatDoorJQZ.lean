/-
  The walk of impl's (*nameable).canShare. Condition: the nameable lies in memory, the package-level errors hold errors. The walk of the given l9Good: whether all items mean the same under a naming's letters. Condition: the memory holds the graph and what its items mean. (gengood10.py writes this text.) The walk of the given l1Places in graphs that need not be valid. Condition: the argument's memory holds the graph.
-/
import Derived.Test.YtgehpaojbnpbcaaGreatDoorJPZ
import Derived.Test.YtgehpaojbnpbcaaGreatDoorJNZ
import Derived.Laws.IdiomStrings
import Derived.Deep.MidRow
import Derived.Test.YtgehpaojbnpbcaaGreatDoorJGZ
import Derived.Test.YtgehpaojbnpbcaaGreatDoorWGdnSZ
import Derived.BigQuiet
import Derived.Test.YtgehpaojbnpbcaaGreatDoorJAZ
namespace Go.Proofs.YtgehpaojbnpbcaaGreatDoor
open Go Go.RowKit
/-- Bytes in a block. -/
def BytesAt (w : World) (b : Nat) (l : List UInt8) : Prop := ∀ (j : Nat) (x : UInt8), l[j]? = some x → w.cell? ⟨b, j, none⟩ = some (.int .u8 (x.toNat : Int)) ∧ w.frozen? ⟨b, j, none⟩ = false
theorem letters_pre {n : Nat} (h : n ≤ 26) : (⟨#[97, 98, 99, 100, 101, 102, 103, 104, 105, 106, 107, 108, 109, 110, 111, 112, 113, 114, 115, 116, 117, 118, 119, 120, 121, 122]⟩ : ByteArray).extract 0 n = txtN (List.range n) := by
  have e : ((List.range 27).all fun n => ((⟨#[97, 98, 99, 100, 101, 102, 103, 104, 105, 106, 107, 108, 109, 110, 111, 112, 113, 114, 115, 116, 117, 118, 119, 120, 121, 122]⟩ : ByteArray).extract 0 n).data.toList == (txtN (List.range n)).data.toList) = true := by decide +kernel
  rw [List.all_eq_true] at e
  have h1 := e n (List.mem_range.2 (by omega))
  exact ByteArray.ext (Array.ext' (by simpa using h1))
/-- Text made bytes. -/
theorem bytes_made (w : World) (T : ByteArray) : ∃ cap WA, (convert 9 88 (.string T)).run Tryz.prog w = .ok (.slice (some ⟨w.heap.size, 0, none⟩) T.size cap) WA ∧ BytesAt WA w.heap.size T.data.toList ∧ Below w.heap.size w WA := by
  refine ⟨_, _, run_bytes_of_string (P := Tryz.prog) w 9 88 5 T Tryz.underlying9 Tryz.underlying88 Tryz.underlying5, fun j x hj => ?_, ((Below.refl _ _).drew).alloc (Nat.le_refl _) _⟩
  generalize grownCap w T.size 0 5 = cp
  have hjl : j < T.data.size := by have := (List.getElem?_eq_some_iff.1 hj).1; rwa [Array.length_toList] at this
  have hrow : (bytesRow T cp)[j]? = some (.int .u8 (x.toNat : Int)) := by
    unfold bytesRow
    rw [Array.getElem?_append_left (by rw [Array.size_map]; exact hjl), Array.getElem?_map]
    rw [Array.getElem?_toList] at hj
    rw [hj]
    rfl
  have hsz : j < (bytesRow T cp).size := (Array.getElem?_eq_some_iff.1 hrow).1
  refine ⟨(World.cell?_alloc_mark w.drew _ 5 _ j).trans hrow, ?_⟩
  unfold World.frozen?
  have : (w.drew.alloc (.cells (bytesRow T cp) 5 ((bytesRow T cp).size, (bytesRow T cp).size + 1))).heap[w.heap.size]? = some (.cells (bytesRow T cp) 5 ((bytesRow T cp).size, (bytesRow T cp).size + 1)) := by
    show (w.heap.push _)[w.heap.size]? = _
    simp
  rw [this]
  simp
  omega
theorem bytes_set {w : World} {b k : Nat} {l : List UInt8} (h : BytesAt w b l) (hk : k < l.length) (x : UInt8) : BytesAt (w.setCell ⟨b, k, none⟩ (.int .u8 (x.toNat : Int))) b (l.set k x) := by
  intro j y hj
  obtain ⟨z, hz⟩ : ∃ z, l[k]? = some z := ⟨_, List.getElem?_eq_getElem hk⟩
  have h1 := h k z hz
  rw [List.getElem?_set] at hj
  by_cases he : k = j
  · subst he
    rw [if_pos rfl, if_pos hk] at hj
    cases hj
    exact ⟨World.cell?_setCell_same _ _ _ h1.1, by rw [World.frozen?_setCell]; exact h1.2⟩
  · rw [if_neg he] at hj
    have h2 := h j y hj
    exact ⟨(World.cell?_setCell_other _ _ _ _ (fun e => by injection e with _ e2 _; exact he e2)).trans h2.1, by rw [World.frozen?_setCell]; exact h2.2⟩
theorem bytes_text {w : World} {b cap : Nat} {l : List UInt8} (h : BytesAt w b l) : (convert 88 9 (.slice (some ⟨b, 0, none⟩) l.length cap)).run Tryz.prog w = .ok (.string ⟨l.toArray⟩) w :=
  run_convert_bytes_back (P := Tryz.prog) w 88 9 5 ⟨b, 0, none⟩ cap l Tryz.underlying88 Tryz.underlying5 Tryz.underlying9 fun j hj => by
    rw [show (⟨b, 0, none⟩ : Addr).add j = ⟨b, 0 + j, none⟩ from Addr.add_mid b 0 j, Nat.zero_add]
    exact (h j _ (List.getElem?_eq_getElem hj)).1
set_option maxRecDepth 100000 in
set_option maxHeartbeats 4000000 in
theorem canShare_any (ss : List Sc) (hF : Fair ss) (oa od : Option Addr) (cap cd N : Nat) (i j : Nat) (hi : i < (dclP ss).length) (hj : j < (dclP ss).length) (hne : i ≠ j) (h25 : (dclP ss).length ≤ 25) (w : World) (hN : NbIs w N ss oa cap od cd) (hE : NmgErrs w) :
    Calls Tryz.prog 100 #[.pointer (some ⟨N, 0, none⟩), .int .i64 (i : Int), .int .i64 (j : Int)] w fun e w' => e = .returned (.bool (decide (goodN ss (pairL (dclP ss).length i j)))) ∧ Below w.heap.size w w' := by
  have d0 := hN.box.cell nbL_dcl
  have hn1 : ((dclP ss).length : Int) ≤ 26 := by omega
  have hn0 : (0 : Int) ≤ ((dclP ss).length : Int) := by omega
  have hx := letters_pre (n := (dclP ss).length) (by omega)
  obtain ⟨cp, WA, kc, hbt, hbA⟩ := bytes_made w (txtN (List.range (dclP ss).length))
  rw [txtN_size, List.length_range] at kc
  have hat : ∀ k, k < (dclP ss).length → (txtN (List.range (dclP ss).length)).data.toList[k]? = some (UInt8.ofNat (97 + k)) := fun k hk => by
    rw [txtN_list, List.getElem?_map, List.getElem?_range hk]
    rfl
  obtain ⟨x, hxe⟩ : ∃ x, UInt8.ofNat (97 + min i j) = x := ⟨_, rfl⟩
  have ca := (hbt (min i j) x (by rw [hat _ (by omega), hxe])).1
  have cb := (hbt (max i j) _ (hat _ (by omega))).1
  have fb := (hbt (max i j) _ (hat _ (by omega))).2
  have hlen : (txtN (List.range (dclP ss).length)).data.toList.length = (dclP ss).length := by rw [txtN_list]; simp
  have hbB := bytes_set hbt (k := max i j) (by rw [hlen]; omega) x
  have hset : (txtN (List.range (dclP ss).length)).data.toList.set (max i j) x = (txtN (pairL (dclP ss).length i j)).data.toList := by
    rw [txtN_list, txtN_list]
    unfold pairL
    rw [List.map_set, hxe]
  rw [hset] at hbB
  have kb := bytes_text (cap := cp) hbB
  have hl2 : (txtN (pairL (dclP ss).length i j)).data.toList.length = (dclP ss).length := by rw [txtN_list]; simp [pairL_length]
  rw [hl2, show (⟨(txtN (pairL (dclP ss).length i j)).data.toList.toArray⟩ : ByteArray) = txtN (pairL (dclP ss).length i j) from by simp] at kb
  have HBB := Lib.hid (hbA.setCell (p := ⟨w.heap.size, max i j, none⟩) (Nat.le_refl _) (.int .u8 (x.toNat : Int)))
  have HOK : Hid (nmgOk ss (txtN (pairL (dclP ss).length i j))) := Lib.hid ⟨hN.ok, by have := txtN_naming (pairL_lt hi hj h25); rwa [pairL_length] at this⟩
  have C := Lib.hid (good_any ss hF oa od cap cd N (txtN (pairL (dclP ss).length i j)) (by rw [txtN_size, pairL_length]; omega) _ (hN.below HBB.out) (hE.at HBB.out))
  clear hF hE hN hbt hbA hbB hat hlen hset hl2 hxe
  rcases Nat.lt_or_gt_of_ne hne with h | h
  · rw [Nat.max_eq_right (by omega)] at cb fb HBB kb C
    rw [Nat.min_eq_left (by omega)] at ca
    have h1 : (i : Int) < (j : Int) := by omega
    have h2 : ¬ (j : Int) < (i : Int) := by omega
    clear h hne
    go_enter Tryz.func100, Tryz.ntmps100
    go_wp2_with fail
    refine C.out.mono ?_
    rintro e w2 ⟨ok, rfl, hok, hb2⟩
    have HK := Lib.hid (And.intro hok (HBB.out.trans (hb2.mono HBB.out.size)))
    clear hok hb2
    go_wp2
    go_ret
    exact ⟨by rw [(HK.out.1.elim (fun h => absurd HOK.out h.1) (fun h => h.2) : ok = decide (goodN ss (pairL (dclP ss).length i j)))]; rfl, HK.out.2⟩
  · rw [Nat.max_eq_left (by omega)] at cb fb HBB kb C
    rw [Nat.min_eq_right (by omega)] at ca
    have h1 : (j : Int) < (i : Int) := by omega
    have h2 : ¬ (i : Int) < (j : Int) := by omega
    clear h hne
    go_enter Tryz.func100, Tryz.ntmps100
    go_wp2_with fail
    refine C.out.mono ?_
    rintro e w2 ⟨ok, rfl, hok, hb2⟩
    have HK := Lib.hid (And.intro hok (HBB.out.trans (hb2.mono HBB.out.size)))
    clear hok hb2
    go_wp2
    go_ret
    exact ⟨by rw [(HK.out.1.elim (fun h => absurd HOK.out h.1) (fun h => h.2) : ok = decide (goodN ss (pairL (dclP ss).length i j)))]; rfl, HK.out.2⟩
end Go.Proofs.YtgehpaojbnpbcaaGreatDoor
namespace Go.Proofs.YtgehpaojbnpbcaaGreatDoor
open Go Go.RowKit
theorem chg_all {ss tt : List Sc} : chgA ss tt = [] ↔ ∀ q ∈ placed 0 ss, meanIt ss q = meanAt tt (q.1 : Int) (q.2.1 : Int) := by
  unfold chgA filtL
  rw [List.map_eq_nil_iff, List.filter_eq_nil_iff]
  refine ⟨fun h q hq => by simpa using h q hq, fun h q hq => by simpa using h q hq⟩
set_option maxRecDepth 100000 in
set_option maxHeartbeats 8000000 in
theorem l9Good_any (ss : List Sc) (hF : Fair ss) (oa om : Option Addr) (cap cm : Nat) (names : ByteArray) (hok : nmgOk ss names) (w : World) (hc : HoldsScopes w oa ss) (hm : HoldsInts w om (mntL ss (placed 0 ss))) :
    Calls Tryz.prog 83 #[.agg #[.slice oa ss.length cap], .slice om (mntL ss (placed 0 ss)).length cm, .string names] w fun e w' => e = .returned (.bool (decide (chgA ss (nmgG ss names) = []))) ∧ Below w.heap.size w w' := by
  obtain ⟨q0, hq0⟩ : ∃ b, decide (chgA ss (nmgG ss names) = []) = b := ⟨_, rfl⟩
  rw [hq0]
  have HQ0 : Hid (q0 = true ↔ chgA ss (nmgG ss names) = []) := Lib.hid (by rw [← hq0]; simp)
  clear hq0
  have hv := hok.1.1
  have h30 := placed_bound 0 ss 6 5 hv.count.2 hv.five
  have hb0 := (Below.refl w.heap.size w).alloc (Nat.le_refl _) (.cells #[.slice oa ss.length cap] 28)
  have R1 := Lib.hid (Row.new w [.slice oa ss.length cap] 28)
  have g1 := R1.out.cell (i := 0) (v := .slice oa ss.length cap) (by rfl)
  have C1 := Lib.hid (l9Put_any ss hF oa om cap cm names hok _ (hc.below hb0 (Nat.le_refl _)) (hm.below hb0))
  have HB := Lib.hid hb0
  have HF := Lib.hid hF
  have HC := Lib.hid hc
  have HM := Lib.hid hm
  have HOK := Lib.hid hok
  have HV := Lib.hid hv
  have HTF := Lib.hid (And.intro hok.valid (nmgOk.fair hF hok).fits)
  have HL30 := Lib.hid h30
  have hst : ∀ i j x, (i, j, x) ∈ placed 0 ss → (i, j, renIt (nmgF ss names) i j x) ∈ placed 0 (nmgG ss names) := fun i j x h => placed_ren h
  have HST := Lib.hid hst
  generalize nmgG ss names = tt at *
  clear hb0 hF hc hm hok hv hst h30
  go_enter Tryz.func83, Tryz.ntmps83
  go_wp2_with fail
  refine C1.out.mono ?_
  rintro e w1 ⟨v, hs, rfl, hO, hb1⟩
  obtain ⟨ov, cv, rfl, -⟩ := hO.holds
  have hbN := (Below.refl w1.heap.size w1).alloc (Nat.le_refl _) (.cells #[.slice ov tt.length cv] 28)
  have hb2 := hb1.trans (hbN.mono hb1.size)
  have HB2 := Lib.hid (HB.out.trans (hb2.mono HB.out.size))
  have RH := Lib.hid (Row.new w1 [.slice ov tt.length cv] 28)
  have RG := Lib.hid (R1.out.below hb2 R1.out.lt)
  have HT := Lib.hid (hO.below hbN).holdsS
  have g2 := RG.out.cell (i := 0) (v := .slice oa ss.length cap) (by rfl)
  have C2 := Lib.hid (l1Places_any ss HV.out.count.2 HV.out.five oa cap 1 _ (HC.out.below HB2.out (Nat.le_refl _)))
  clear hO hb1 hbN hb2 g1
  go_wp2_with fail
  refine C2.out.mono ?_
  rintro e w3 ⟨vl, rfl, hl, hb3⟩
  rw [show plsP ss 1 = dclP ss from rfl] at hl
  obtain ⟨ol, cl, rfl, hal⟩ := argPlaces_of_owns hl
  have HB3 := Lib.hid (HB2.out.trans (hb3.mono HB2.out.size))
  have RG3 := Lib.hid (RG.out.below hb3 RG.out.lt)
  have RH3 := Lib.hid (RH.out.below hb3 RH.out.lt)
  have HT3 := Lib.hid (HT.out.below hb3 (Nat.le_refl _))
  have HAL := Lib.hid hal
  have g3 := RG3.out.cell (i := 0) (v := .slice oa ss.length cap) (by rfl)
  have C3 := Lib.hid (l4Items_any ss (by have := HV.out.count.2; omega) (fun s hs => by have := HV.out.five s hs; omega) (by have := HL30.out; omega) oa cap _ (HC.out.below HB3.out (Nat.le_refl _)))
  clear hl hal hb3 g2
  go_wp2_with fail
  refine C3.out.mono ?_
  rintro e w4 ⟨vt, rfl, htl, hb4⟩
  obtain ⟨ot, ct, rfl, hat⟩ := argPlaces_of_owns htl
  have HB4 := Lib.hid (HB3.out.trans (hb4.mono HB3.out.size))
  have RH4 := Lib.hid (RH3.out.below hb4 RH3.out.lt)
  have HT4 := Lib.hid (HT3.out.below hb4 (Nat.le_refl _))
  have HAL4 := Lib.hid (HAL.out.below hb4)
  have HAT := Lib.hid hat
  have HM4 := Lib.hid (HM.out.below HB4.out)
  have HLN : Hid ((plsAll (placed 0 ss)).length = (placed 0 ss).length) := Lib.hid (plsAll_length _)
  have hln : (plsAll (placed 0 ss)).length ≤ 30 := by rw [plsAll_length]; exact HL30.out
  have hld : (dclP ss).length ≤ 30 := by
    have h1 := plsOf_length 1 (placed 0 ss)
    have h2 := HL30.out
    unfold dclP plsP
    omega
  clear htl hat hb4 g3
  go_wp2
  go_loopw [21] (fun i wr => ∃ k : Nat, i = .int .i64 k ∧ k ≤ (plsAll (placed 0 ss)).length ∧ Hid (Below w4.heap.size w4 wr ∧ ∀ m q, m < k → (placed 0 ss)[m]? = some q → meanIt ss q = meanAt tt (q.1 : Int) (q.2.1 : Int))) (fun i _ => (plsAll (placed 0 ss)).length - (intOf i).toNat)
  case atStart => exact ⟨0, rfl, Nat.zero_le _, Lib.hid ⟨Below.refl _ _, fun m q hm => absurd hm (by omega)⟩⟩
  case round =>
    obtain ⟨k, rfl, hk, hP⟩ := hrel
    by_cases hlt : k < (plsAll (placed 0 ss)).length
    · obtain ⟨⟨i, j, x⟩, hqk⟩ : ∃ q, (placed 0 ss)[k]? = some q := ⟨_, List.getElem?_eq_getElem (by rw [HLN.out] at hlt; exact hlt)⟩
      have hqm := List.mem_of_getElem? hqk
      obtain ⟨b5, f5, rfl, hb5, q5⟩ := (HAT.out.below hP.out.1).at (by omega)
      obtain ⟨r0, r1⟩ := q5 k ((i : Int), (j : Int)) (plsAll_at hqk)
      have hba := (Below.refl wr.heap.size wr).alloc (Nat.le_refl _) (.cells #[.int .i64 (i : Int), .int .i64 (j : Int)] 59)
      have HBA := Lib.hid (hP.out.1.trans (hba.mono hP.out.1.size))
      have h4 := (RH4.out.below HBA.out RH4.out.lt).cell (i := 0) (v := .slice ov tt.length cv) (by rfl)
      have RPB := Lib.hid (Row.new wr [.int .i64 (i : Int), .int .i64 (j : Int)] 59)
      have a0 := RPB.out.cell (i := 0) (v := .int .i64 (i : Int)) (by rfl)
      have a1 := RPB.out.cell (i := 1) (v := .int .i64 (j : Int)) (by rfl)
      have HQK := Lib.hid hqk
      have HQM := Lib.hid hqm
      have HQ2 := Lib.hid (HST.out i j x hqm)
      have C4 := Lib.hid (specResolve_any tt HTF.out.1 HTF.out.2 ov cv HQ2.out _ (HT4.out.below HBA.out (Nat.le_refl _)))
      have HMA : Hid (meanAt tt (i : Int) (j : Int) = meanIt tt (i, j, renIt (nmgF ss names) i j x)) := Lib.hid (meanAt_of HQ2.out)
      have HML := Lib.hid (meanIt_length HTF.out.1 (i, j, renIt (nmgF ss names) i j x))
      generalize meanIt tt (i, j, renIt (nmgF ss names) i j x) = ml at *
      clear hqk hqm hba q5
      go_wp2_with fail
      refine C4.out.mono ?_
      rintro e w6 ⟨vm, rfl, hml, hb6⟩
      obtain ⟨o6, c6, rfl, ha6⟩ := argPlaces_of_owns hml
      have HB6 := Lib.hid (HBA.out.trans (hb6.mono HBA.out.size))
      have HA6 := Lib.hid ha6
      have hcl := HOK.out.1.2 _ HQM.out
      have hmk := mnt_at HQK.out
      obtain ⟨mb, mf, rfl, hmb, mq⟩ : ∃ b f, om = some ⟨b, f, none⟩ ∧ b < w4.heap.size ∧ ∀ a y, (mntL ss (placed 0 ss))[a]? = some y → w4.cell? ⟨b, f + a, none⟩ = some (.int .i64 y) := by
        rcases HM4.out with h | h
        · rw [h] at hmk; simp at hmk
        · exact h
      have hkm : k < (mntL ss (placed 0 ss)).length := (List.getElem?_eq_some_iff.1 hmk).1
      have m0 := (World.cell?_of_block (a := ⟨mb, mf + k, none⟩) (HB6.out.block mb hmb)).trans (mq k _ hmk)
      have HBAD : Hid (meanIt ss (i, j, x) ≠ ml → q0 = false) := Lib.hid (fun h => by
        cases hq : q0 with
        | false => rfl
        | true => exact absurd ((chg_all.1 (HQ0.out.1 hq) _ HQM.out).trans HMA.out) h)
      have HGO : Hid (meanIt ss (i, j, x) = ml → ∀ m q, m < k + 1 → (placed 0 ss)[m]? = some q → meanIt ss q = meanAt tt (q.1 : Int) (q.2.1 : Int)) := Lib.hid (fun h m q hm hq => by
        by_cases he : m = k
        · subst he
          rw [HQK.out] at hq
          cases hq
          rw [h, ← HMA.out]
        · exact hP.out.2 m q (by omega) hq)
      have HDR : Hid (∀ (W : World) (q : Nat), World.drewN w6 q = W → Below w4.heap.size w4 W) := Lib.hid (fun W q e => by
        subst e
        exact below_drewN HB6.out q)
      have hMD := mean_dcl HV.out HQM.out
      clear hb6 hml ha6 mq hmb a0 a1 r0 r1 h4
      cases hme : meanIt ss (i, j, x) with
      | nil =>
        rw [hme] at hmk m0
        have HG0 : Hid (ml = [] → ∀ m q, m < k + 1 → (placed 0 ss)[m]? = some q → meanIt ss q = meanAt tt (q.1 : Int) (q.2.1 : Int)) := Lib.hid (fun h => HGO.out (by rw [hme, h]))
        have HB0 : Hid (ml ≠ [] → q0 = false) := Lib.hid (fun h => HBAD.out (by rw [hme]; exact fun e => h e.symm))
        have m1 : w6.cell? ⟨mb, mf + k, none⟩ = some (.int .i64 (-1)) := m0
        clear m0 hme hMD hmk
        by_cases h0 : ml.length = 0
        · have HN := Lib.hid (HG0.out (List.eq_nil_of_length_eq_zero h0))
          have e0 : decide ((0 : Int) < (ml.length : Int)) = false := decide_eq_false (by omega)
          have e0' : decide (0 < ml.length) = false := decide_eq_false (by omega)
          have e1 : ((ml.length : Int) == 1) = false := by rw [beq_eq_false_iff_ne]; omega
          clear h0 hcl
          go_wp2
          go_quiet (fail)
          generalize hWD : World.drewN _ _ = wD
          have HBD := Lib.hid (HDR.out _ _ hWD)
          clear hWD m1
          go_wp2
          go_roundw
          case rel => exact ⟨k + 1, by go_num, by omega, Lib.hid ⟨HBD.out, HN.out⟩⟩
          case measure => simp only [intOf]; omega
        · have HN := Lib.hid (HB0.out (fun e => h0 (by rw [e]; rfl)))
          have e0 : decide ((0 : Int) < (ml.length : Int)) = true := decide_eq_true (by omega)
          have e0' : decide (0 < ml.length) = true := decide_eq_true (by omega)
          clear h0 hcl
          go_wp2
          go_quiet (fail)
          generalize hWD : World.drewN _ _ = wD
          have HBD := Lib.hid (HDR.out _ _ hWD)
          clear hWD m1
          go_wp2
          go_ret
          exact ⟨by rw [HN.out]; rfl, HB4.out.trans (HBD.out.mono HB4.out.size)⟩
      | cons p r =>
        rw [hme] at hmk m0 hcl hMD
        obtain rfl : r = [] := by
          cases r with
          | nil => rfl
          | cons a b => simp at hcl
        have hpD := hMD p (List.mem_singleton.2 rfl)
        have hp0 := posOf_mem hpD
        have hpr := posOf_range (dclP ss) p
        have hpg := posOf_get hp0
        obtain ⟨d, hd⟩ : ∃ d : Nat, posOf (dclP ss) p = (d : Int) := ⟨_, (Int.toNat_of_nonneg hp0).symm⟩
        have m1 : w6.cell? ⟨mb, mf + k, none⟩ = some (.int .i64 (d : Int)) := by rw [← hd]; exact m0
        rw [hd] at hp0 hpr hpg
        have hdl : d < (dclP ss).length := by omega
        obtain ⟨a, b⟩ := p
        obtain ⟨lb, lf, rfl, hlb, lq⟩ := (HAL4.out.below HB6.out).at (by omega)
        obtain ⟨l0, l1⟩ := lq d (a, b) (by simpa using hpg)
        have HG0 : Hid (ml = [(a, b)] → ∀ m q, m < k + 1 → (placed 0 ss)[m]? = some q → meanIt ss q = meanAt tt (q.1 : Int) (q.2.1 : Int)) := Lib.hid (fun h => HGO.out (by rw [hme, h]))
        have HB0 : Hid (ml ≠ [(a, b)] → q0 = false) := Lib.hid (fun h => HBAD.out (by rw [hme]; exact fun e => h e.symm))
        have d0 : decide ((d : Int) < 0) = false := by simp
        have d1 : decide ((0 : Int) ≤ (d : Int)) = true := by simp
        have d1' : decide ((d : Int) ≥ 0) = true := by simp
        have d2 : (d : Int) < ((dclP ss).length : Int) := by omega
        clear m0 hme hMD hmk hpD hp0 hpr hpg hd lq hlb hcl
        by_cases h1 : ml.length = 1
        · obtain ⟨⟨c, e⟩, hp⟩ := List.length_eq_one_iff.1 h1
          obtain ⟨b7, f7, rfl, hb7, q7⟩ := HA6.out.at (by omega)
          obtain ⟨u0, u1⟩ := q7 0 (c, e) (by rw [hp]; rfl)
          simp only [Nat.zero_mul, Nat.add_zero] at u0 u1
          have HPE := Lib.hid hp
          have e1 : ((ml.length : Int) == 1) = true := by rw [h1]; rfl
          have e1' : ((ml.length : Int) != 1) = false := by rw [h1]; rfl
          have e2 : (0 : Int) < (ml.length : Int) := by omega
          clear hp h1 q7 hb7
          by_cases hca : c = a
          · subst hca
            by_cases heb : e = b
            · subst heb
              have HN := Lib.hid (HG0.out HPE.out)
              go_wp2
              go_quiet (fail)
              generalize hWD : World.drewN _ _ = wD
              have HBD := Lib.hid (HDR.out _ _ hWD)
              clear hWD m1 u0 u1 l0 l1
              go_wp2
              go_roundw
              case rel => exact ⟨k + 1, by go_num, by omega, Lib.hid ⟨HBD.out, HN.out⟩⟩
              case measure => simp only [intOf]; omega
            · have HN := Lib.hid (HB0.out (fun h => by rw [HPE.out] at h; cases h; exact heb rfl))
              have e3 : (e == b) = false := by simpa using heb
              clear heb
              go_wp2
              go_quiet (fail)
              generalize hWD : World.drewN _ _ = wD
              have HBD := Lib.hid (HDR.out _ _ hWD)
              clear hWD m1 u0 u1 l0 l1
              go_wp2
              go_ret
              exact ⟨by rw [HN.out]; rfl, HB4.out.trans (HBD.out.mono HB4.out.size)⟩
          · have HN := Lib.hid (HB0.out (fun h => by rw [HPE.out] at h; cases h; exact hca rfl))
            have e3 : (c == a) = false := by simpa using hca
            clear hca
            go_wp2
            go_quiet (fail)
            generalize hWD : World.drewN _ _ = wD
            have HBD := Lib.hid (HDR.out _ _ hWD)
            clear hWD m1 u0 u1 l0 l1
            go_wp2
            go_ret
            exact ⟨by rw [HN.out]; rfl, HB4.out.trans (HBD.out.mono HB4.out.size)⟩
        · have HN := Lib.hid (HB0.out (fun h => h1 (by rw [h]; rfl)))
          have e1 : ((ml.length : Int) == 1) = false := by rw [beq_eq_false_iff_ne]; omega
          have e1' : ((ml.length : Int) != 1) = true := by rw [bne_iff_ne]; omega
          clear h1
          go_wp2
          go_quiet (fail)
          generalize hWD : World.drewN _ _ = wD
          have HBD := Lib.hid (HDR.out _ _ hWD)
          clear hWD m1
          go_wp2
          go_ret
          exact ⟨by rw [HN.out]; rfl, HB4.out.trans (HBD.out.mono HB4.out.size)⟩
    · obtain rfl : k = (plsAll (placed 0 ss)).length := by omega
      have HE : Hid (q0 = true) := Lib.hid (HQ0.out.2 (chg_all.2 fun q hq => by
        obtain ⟨m, hm⟩ := List.mem_iff_getElem?.1 hq
        have := (List.getElem?_eq_some_iff.1 hm).1
        exact hP.out.2 m q (by rw [HLN.out]; omega) hm))
      go_wp2
      go_ret
      exact ⟨by rw [HE.out]; rfl, HB4.out.trans (hP.out.1.mono HB4.out.size)⟩
end Go.Proofs.YtgehpaojbnpbcaaGreatDoor
namespace Go.Proofs.YtgehpaojbnpbcaaGreatDoor
open Go Go.RowKit
end Go.Proofs.YtgehpaojbnpbcaaGreatDoor
