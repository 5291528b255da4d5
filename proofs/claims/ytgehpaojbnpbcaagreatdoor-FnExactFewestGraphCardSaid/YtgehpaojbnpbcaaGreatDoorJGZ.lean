/-
  The walks of the given l9Clear and l9Meant. Condition: the argument's memory holds the graph. The walks of the given l9Put, l9Named, l9RawNamedGraph and NamedGraph. Condition: the argument's memory holds the graph. (gennmgs.py writes this text.) The walks of the given l9Named, l9RawNamedGraph and NamedGraph. Condition: the argument's memory holds the graph.
-/
import Derived.Test.YtgehpaojbnpbcaaGreatDoorJFZ
import Derived.Test.YtgehpaojbnpbcaaGreatDoorJDZ
import Derived.Test.YtgehpaojbnpbcaaGreatDoorWImplItemsZ
import Derived.BigQuiet
import Derived.Test.YtgehpaojbnpbcaaGreatDoorWRenS2Z
import Derived.Laws.Runes
namespace Go.Proofs.YtgehpaojbnpbcaaGreatDoor
open Go Go.RowKit
theorem sts_clear (ss : List Sc) : stsP ss 3 = [] ↔ Clear ss := by
  unfold stsP stsOf Clear
  rw [List.map_eq_nil_iff, List.filter_eq_nil_iff]
  constructor
  · intro h q hq
    have h1 := h q hq
    unfold stateIt at h1
    by_cases h2 : (meanIt ss q).length = 0
    · omega
    · rw [if_neg h2] at h1
      by_cases h3 : 1 < (meanIt ss q).length
      · rw [if_pos h3] at h1; simp at h1
      · omega
  · intro h q hq
    have h1 := h q hq
    unfold stateIt
    by_cases h2 : (meanIt ss q).length = 0
    · rw [if_pos h2]; simp
    · rw [if_neg h2, if_neg (by omega)]
      split <;> simp
set_option maxRecDepth 100000 in
set_option maxHeartbeats 4000000 in
theorem l9Clear_any (ss : List Sc) (hF : Fair ss) (oa : Option Addr) (cap : Nat) (w : World) (hc : HoldsScopes w oa ss) :
    Calls Tryz.prog 82 #[.agg #[.slice oa ss.length cap]] w fun e w' => ∃ b : Bool, e = .returned (.bool b) ∧ (b = true ↔ Valid ss ∧ Clear ss) ∧ Below w.heap.size w w' := by
  have hb0 := (Below.refl w.heap.size w).alloc (Nat.le_refl _) (.cells #[.slice oa ss.length cap] 28)
  have C := Lib.hid (specItemsIn_any ss hF.fits oa cap 3 _ (hc.below hb0 (Nat.le_refl _)))
  have HB0 := Lib.hid hb0
  have g0 := (Row.new w [.slice oa ss.length cap] 28).cell (i := 0) (by rfl)
  clear hF hc hb0
  go_enter Tryz.func82, Tryz.ntmps82
  go_wp2_with fail
  refine C.out.mono ?_
  rintro e w1 (⟨hn, g, rfl, hb⟩ | ⟨hok, v, rfl, hown, hb⟩)
  · have HN := Lib.hid (And.intro hn (HB0.out.trans (hb.mono HB0.out.size)))
    clear hn hb
    go_wp2
    go_ret
    exact ⟨false, rfl, ⟨fun h => (by cases h), fun h => absurd ⟨h.1, rfl⟩ HN.out.1⟩, HN.out.2⟩
  · obtain ⟨ov, cv, rfl⟩ := ownsRow_slice hown
    have HN := Lib.hid (And.intro hok (HB0.out.trans (hb.mono HB0.out.size)))
    obtain ⟨q, hq⟩ : ∃ q, ((((stsP ss 3).length : Nat) : Int) == 0) = q := ⟨_, rfl⟩
    have HQ : Hid (q = true ↔ Clear ss) := Lib.hid (by
      rw [← hq, ← sts_clear]
      simp [List.length_eq_zero_iff])
    clear hok hown hb
    go_wp2
    go_ret
    exact ⟨q, rfl, ⟨fun h => ⟨HN.out.1.1, HQ.out.1 h⟩, fun h => HQ.out.2 h.2⟩, HN.out.2⟩
/-- Which declaration each item means alone. -/
def mntL (ss : List Sc) (l : List (Nat × Nat × It)) : List Int := l.map fun q => boundK (dclP ss) (meanIt ss q)
def bndUp (D l : List (Int × Int)) (j : Nat) : Int := match l with
  | [p] => posUp D p j
  | _ => -1
theorem bndUp_all (D l : List (Int × Int)) : bndUp D l D.length = boundK D l := by
  match l with
  | [] => rfl
  | [_] => rfl
  | _ :: _ :: _ => rfl
def intVs (l : List Int) : List Value := l.map fun x => Value.int .i64 x
/-- What holds at the head of a round of l9Meant. -/
structure MntAt (w wr : World) (oa : Option Addr) (cap n : Nat) (vD tl vo : Value) (D all : List (Int × Int)) (os : List Int) : Prop where
  box : Row wr w.heap.size 28 [.slice oa n cap]
  dcl : wr.ownsRow w.heap.size 59 2 vD D.length (placeCells D)
  items : wr.ownsRow w.heap.size 59 2 tl all.length (placeCells all)
  out : wr.ownsRow w.heap.size 3 1 vo os.length (intVs os)
  below : Below w.heap.size w wr
theorem MntAt.step {w wr w' : World} {oa : Option Addr} {cap n : Nat} {vD tl vo : Value} {D all : List (Int × Int)} {os : List Int} (h : MntAt w wr oa cap n vD tl vo D all os) (hb : Below wr.heap.size wr w') : MntAt w w' oa cap n vD tl vo D all os where
  box := h.box.below hb h.box.lt
  dcl := ownsRow_below h.dcl hb
  items := ownsRow_below h.items hb
  out := ownsRow_below h.out hb
  below := h.below.trans (hb.mono h.below.size)
theorem MntAt.snoc {w wr w' : World} {oa : Option Addr} {cap n : Nat} {vD tl vo v' : Value} {D all : List (Int × Int)} {os : List Int} {x : Int} {o : Obj} (h : MntAt w wr oa cap n vD tl vo D all os)
    (hown : w'.ownsRow w.heap.size 3 1 v' (os.length + 1) (intVs os ++ [.int .i64 x])) (hg : (wr.alloc o).grownBy w' vo.ownBlock) : MntAt w w' oa cap n vD tl v' D all (os ++ [x]) where
  box := (h.box.alloc o).grown hg (ownsRow_ne h.box (by decide) h.out)
  dcl := (h.dcl.alloc o).kept hg (ownsRows_ne h.dcl h.out (by decide))
  items := (h.items.alloc o).kept hg (ownsRows_ne h.items h.out (by decide))
  out := by
    rw [List.length_append, List.length_singleton]
    unfold intVs
    rw [List.map_append]
    exact hown
  below := h.below.trans (below_append2 h.out hg (Nat.le_refl _) h.below.size)
set_option maxRecDepth 100000 in
set_option maxHeartbeats 8000000 in
theorem l9Meant_any (ss : List Sc) (hv : Valid ss) (hf : FitsScopes ss) (oa : Option Addr) (cap : Nat) (w : World) (hc : HoldsScopes w oa ss) :
    Calls Tryz.prog 54 #[.agg #[.slice oa ss.length cap]] w fun e w' => ∃ v, e = .returned v ∧ w'.ownsRow w.heap.size 3 1 v (mntL ss (placed 0 ss)).length (intVs (mntL ss (placed 0 ss))) ∧ Below w.heap.size w w' := by
  have hb0 := ((Below.refl w.heap.size w).alloc (Nat.le_refl _) (.cells #[.slice oa ss.length cap] 28)).alloc (by simp) (.cells #[] 3)
  have R0 := Lib.hid ((Row.new w [.slice oa ss.length cap] 28).alloc (.cells #[] 3))
  have hown0 : ((w.alloc (.cells #[.slice oa ss.length cap] 28)).alloc (.cells #[] 3)).ownsRow w.heap.size 3 1 (.slice (some ⟨w.heap.size + 1, 0, none⟩) 0 0) 0 [] := by
    have h0 := World.ownsRow_made (base := w.heap.size) (e := 3) (size := 1) (w.alloc (.cells #[.slice oa ss.length cap] 28)) #[] 0 (by simp) (by unfold maxLen; omega) rfl
    rw [World.size_alloc] at h0
    exact h0
  have h30 := placed_bound 0 ss 6 5 hv.count.2 hv.five
  have C1 := Lib.hid (l1Places_any ss hv.count.2 hv.five oa cap 1 _ (hc.below hb0 (Nat.le_refl _)))
  have C2 := Lib.hid (fun W (hW : Below w.heap.size w W) => l4Items_any ss (by have := hv.count.2; omega) (fun s hs => by have := hv.five s hs; omega) (by omega) oa cap W (hc.below hW (Nat.le_refl _)))
  have HO0 := Lib.hid hown0
  have HB0 := Lib.hid hb0
  have HC := Lib.hid hc
  have HF := Lib.hid hf
  have HV := Lib.hid hv
  have g0 := R0.out.cell (i := 0) (by rfl)
  clear hf hc hb0 hown0 hv
  go_enter Tryz.func54, Tryz.ntmps54
  go_wp2_with fail
  refine C1.out.mono ?_
  rintro e w1 ⟨vD, rfl, hD, hb1⟩
  have HB1 := Lib.hid (HB0.out.trans (hb1.mono HB0.out.size))
  have R1 := Lib.hid (R0.out.below hb1 R0.out.lt)
  have O1 := Lib.hid (And.intro (ownsRow_below HO0.out hb1) (ownsRow_lower hD HB0.out.size))
  have g1 := R1.out.cell (i := 0) (by rfl)
  clear hD hb1 g0
  go_wp2_with fail
  refine (C2.out _ HB1.out).mono ?_
  rintro e w2 ⟨tl, rfl, htl, hb2⟩
  have HM0 : Hid (MntAt w w2 oa cap ss.length vD tl (.slice (some ⟨w.heap.size + 1, 0, none⟩) 0 0) (plsP ss 1) (plsAll (placed 0 ss)) (mntL ss [])) := Lib.hid
    ⟨R1.out.below hb2 R1.out.lt, ownsRow_below O1.out.2 hb2, ownsRow_lower htl HB1.out.size, ownsRow_below O1.out.1 hb2, HB1.out.trans (hb2.mono HB1.out.size)⟩
  obtain ⟨oD, cD, rfl, -⟩ := argPlaces_of_owns O1.out.2
  obtain ⟨ot, ct, rfl, -⟩ := argPlaces_of_owns htl
  have hdl : (plsP ss 1).length ≤ 30 := Nat.le_trans (plsOf_length 1 _) h30
  have HLN : Hid ((plsAll (placed 0 ss)).length = (placed 0 ss).length) := Lib.hid (plsAll_length _)
  obtain ⟨D, hDe⟩ : ∃ D, plsP ss 1 = D := ⟨_, rfl⟩
  have HDE : Hid (dclP ss = D) := Lib.hid hDe
  have HDP : Hid (∀ p ∈ D, ∃ i j : Nat, p = ((i : Int), (j : Int))) := Lib.hid (fun p hp => by
    rw [← hDe] at hp
    unfold plsP plsOf at hp
    obtain ⟨⟨i, j, x⟩, -, rfl⟩ := List.mem_map.1 hp
    exact ⟨i, j, rfl⟩)
  rw [hDe] at HM0 hdl ⊢
  rw [HLN.out] at HM0 ⊢
  have H30 := Lib.hid h30
  clear hb2 htl g1 hDe h30
  go_wp2
  go_loopw [3, 17] (fun vo i wr => ∃ k : Nat, i = .int .i64 k ∧ k ≤ (placed 0 ss).length ∧ Hid (MntAt w wr oa cap ss.length (.slice oD D.length cD) (.slice ot (placed 0 ss).length ct) vo D (plsAll (placed 0 ss)) (mntL ss ((placed 0 ss).take k)))) (fun _ i _ => (placed 0 ss).length - (intOf i).toNat)
  case atStart => exact ⟨0, rfl, Nat.zero_le _, by rw [List.take_zero]; exact HM0⟩
  case round =>
    obtain ⟨k, rfl, hk, hP⟩ := hrel
    rename_i vch _ _
    by_cases hlt : k < (placed 0 ss).length
    · obtain ⟨⟨i, j, x⟩, hq⟩ : ∃ q, (placed 0 ss)[k]? = some q := ⟨_, List.getElem?_eq_getElem hlt⟩
      have hqm := List.mem_of_getElem? hq
      obtain ⟨ot', ct', he', hat⟩ := argPlaces_of_owns hP.out.items
      rw [HLN.out] at he'
      simp only [Value.slice.injEq] at he'
      obtain ⟨rfl, -, rfl⟩ := he'
      obtain ⟨b1, f1, rfl, hb1, q1⟩ := hat.at (by rw [HLN.out]; omega)
      obtain ⟨y0, y1⟩ := q1 k _ (plsAll_at hq)
      dsimp only at y0 y1
      have hba := (Below.refl wr.heap.size wr).alloc (Nat.le_refl _) (.cells #[.int .i64 (i : Int), .int .i64 (j : Int)] 59)
      have HPA := Lib.hid (hP.out.step hba)
      have RP := Row.new wr [.int .i64 (i : Int), .int .i64 (j : Int)] 59
      have p0 := RP.cell (i := 0) (v := .int .i64 (i : Int)) (by rfl)
      have p1 := RP.cell (i := 1) (v := .int .i64 (j : Int)) (by rfl)
      have g1 := HPA.out.box.cell (i := 0) (v := .slice oa ss.length cap) (by rfl)
      have C4 := Lib.hid (specResolve_any ss HV.out HF.out oa cap hqm _ (HC.out.below HPA.out.below (Nat.le_refl _)))
      have HML : Hid ((meanIt ss (i, j, x)).length ≤ 25 ∧ ∀ p ∈ meanIt ss (i, j, x), IsPlace ss p) := Lib.hid ⟨meanIt_length HV.out _, meanIt_isPlace hqm⟩
      have HTK : Hid (mntL ss ((placed 0 ss).take (k + 1)) = mntL ss ((placed 0 ss).take k) ++ [boundK D (meanIt ss (i, j, x))]) := Lib.hid (by
        rw [List.take_add_one, hq, ← HDE.out]
        unfold mntL
        rw [Option.toList_some, List.map_append]
        rfl)
      have HOL : Hid ((mntL ss ((placed 0 ss).take k)).length < 1000000) := Lib.hid (by
        unfold mntL
        rw [List.length_map, List.length_take]
        have := H30.out
        omega)
      obtain ⟨l, hl⟩ : ∃ l, meanIt ss (i, j, x) = l := ⟨_, rfl⟩
      rw [hl] at C4 HML HTK
      clear hq hqm hat q1 hb1 hba RP hl
      go_wp2_with fail
      refine C4.out.mono ?_
      rintro e w4 ⟨vl, rfl, hown, hb4⟩
      obtain ⟨ol, cl, rfl, hal⟩ := argPlaces_of_owns hown
      have HP4 := Lib.hid (HPA.out.step hb4)
      have HAL := Lib.hid hal
      obtain ⟨oD', cD', heD, haD⟩ := argPlaces_of_owns HP4.out.dcl
      simp only [Value.slice.injEq] at heD
      obtain ⟨rfl, -, rfl⟩ := heD
      have HAD := Lib.hid haD
      clear hown hal hb4 haD y0 y1 p0 p1 g1
      go_wp2
      go_loopw [7, 26] (fun kv jv wi => ∃ m : Nat, jv = .int .i64 m ∧ kv = .int .i64 (bndUp D l m) ∧ m ≤ D.length ∧ Hid (Below w4.heap.size w4 wi)) (fun _ jv _ => D.length - (intOf jv).toNat)
      case atStart => exact ⟨0, rfl, by unfold bndUp; split <;> rfl, Nat.zero_le _, Lib.hid (Below.refl _ _)⟩
      case round =>
        obtain ⟨m, rfl, rfl, hm, hI⟩ := hrel
        by_cases hlt2 : m < D.length
        · obtain ⟨p, hp⟩ : ∃ p, D[m]? = some p := ⟨_, List.getElem?_eq_getElem hlt2⟩
          obtain ⟨a, b, rfl⟩ := HDP.out p (List.mem_of_getElem? hp)
          obtain ⟨b2, f2, rfl, hb2, q2⟩ := (HAD.out.below hI.out).at (by omega)
          obtain ⟨z0, z1⟩ := q2 m _ hp
          dsimp only at z0 z1
          have RD := Row.new wr [.int .i64 (a : Int), .int .i64 (b : Int)] 59
          have d0 := RD.cell (i := 0) (v := .int .i64 (a : Int)) (by rfl)
          have d1 := RD.cell (i := 1) (v := .int .i64 (b : Int)) (by rfl)
          have hbd := (Below.refl wr.heap.size wr).alloc (Nat.le_refl _) (.cells #[.int .i64 (a : Int), .int .i64 (b : Int)] 59)
          have HID := Lib.hid (hI.out.trans (hbd.mono hI.out.size))
          have HDR : Hid (∀ (n : Nat), Below w4.heap.size w4 (World.drewN (wr.alloc (.cells #[.int .i64 (a : Int), .int .i64 (b : Int)] 59)) n)) := Lib.hid (fun n => below_drewN HID.out n)
          by_cases hl1 : l.length = 1
          · obtain ⟨e0, rfl⟩ : ∃ e0, l = [e0] := List.length_eq_one_iff.1 hl1
            obtain ⟨c, d, cs, cx, rfl, -, -⟩ := HML.out.2 e0 (by simp)
            obtain ⟨b3, f3, rfl, hb3, q3⟩ := (HAL.out.below HID.out).at (by simp)
            obtain ⟨u0, u1⟩ := q3 0 _ rfl
            simp only [Nat.zero_mul, Nat.add_zero] at u0 u1
            have HUP : Hid (bndUp D [((c : Int), (d : Int))] (m + 1) = if (a : Int) = (c : Int) ∧ (b : Int) = (d : Int) then (m : Int) else bndUp D [((c : Int), (d : Int))] m) := Lib.hid (by
              show (if D[m]? = some ((c : Int), (d : Int)) then (m : Int) else _) = _
              rw [hp]
              simp only [Option.some.injEq, Prod.mk.injEq]
              rfl)
            clear hp q2 hb2 q3 hb3 RD hbd hl1
            by_cases h1 : (c : Int) = (a : Int)
            · by_cases h2 : (d : Int) = (b : Int)
              · have HU2 : Hid (bndUp D [((c : Int), (d : Int))] (m + 1) = (m : Int)) := Lib.hid (by rw [HUP.out, if_pos ⟨h1.symm, h2.symm⟩])
                have e1 : ((c : Int) == (a : Int)) = true := by simpa using h1
                have e2 : ((d : Int) == (b : Int)) = true := by simpa using h2
                clear h1 h2
                go_wp2
                go_quiet (fail)
                go_wp2
                go_roundw
                case rel => exact ⟨m + 1, by go_num, by rw [HU2.out], by omega, Lib.hid (HDR.out _)⟩
                case measure => simp only [intOf]; omega
              · have HU2 : Hid (bndUp D [((c : Int), (d : Int))] (m + 1) = bndUp D [((c : Int), (d : Int))] m) := Lib.hid (by rw [HUP.out, if_neg (fun h => h2 h.2.symm)])
                have e1 : ((c : Int) == (a : Int)) = true := by simpa using h1
                have e2 : ((d : Int) == (b : Int)) = false := by simpa using h2
                clear h1
                go_wp2
                go_quiet (fail)
                go_wp2
                go_roundw
                case rel => exact ⟨m + 1, by go_num, by rw [HU2.out], by omega, Lib.hid (HDR.out _)⟩
                case measure => simp only [intOf]; omega
            · have HU2 : Hid (bndUp D [((c : Int), (d : Int))] (m + 1) = bndUp D [((c : Int), (d : Int))] m) := Lib.hid (by rw [HUP.out, if_neg (fun h => h1 h.1.symm)])
              have e1 : ((c : Int) == (a : Int)) = false := by simpa using h1
              go_wp2
              go_quiet (fail)
              go_wp2
              go_roundw
              case rel => exact ⟨m + 1, by go_num, by rw [HU2.out], by omega, Lib.hid (HDR.out _)⟩
              case measure => simp only [intOf]; omega
          · have hl2 : ((l.length : Int) == 1) = false := by simp; omega
            have hl3 : decide ((l.length : Int) = 1) = false := by simp; omega
            have HU2 : Hid (∀ n, bndUp D l n = -1) := Lib.hid (fun n => by
              unfold bndUp
              split
              · simp at hl1
              · rfl)
            rw [HU2.out]
            clear hp q2 hb2 RD hbd hl1
            go_wp2
            go_quiet (fail)
            go_wp2
            go_roundw
            case rel => exact ⟨m + 1, by go_num, by rw [HU2.out], by omega, Lib.hid (HDR.out _)⟩
            case measure => simp only [intOf]; omega
        · obtain rfl : m = D.length := by omega
          rw [bndUp_all]
          have HP5 := Lib.hid (HP4.out.step hI.out)
          have hout := HP5.out.out
          obtain ⟨i0, hi0, hz0, hz1, hz2⟩ := info_parts infoInt
          have hbs := HP5.out.below.size
          have hol := HOL.out
          have h30 := H30.out
          go_wp2_with (at_builtin; refine wpList_append_own _ rfl _ _ 96 rfl w.heap.size 3 i0 (.int .i64 0) 1 8 Tryz.underlying96 hi0 hz0 hz1 hz2 rfl (by decide) _ _ _ rfl (hout.alloc _) ⟨wr.heap.size, 0, none⟩ 1 1 [.int .i64 (boundK D l)] rfl rfl ?c1 ?c2 ?c3 ?c4 ?c5 ?_)
          case c1 => exact cells_new _ _ _
          case c2 => intro u hu; simp only [List.mem_singleton] at hu; subst hu; rfl
          case c3 => unfold maxLen; omega
          case c4 => omega
          case c5 => simp only [World.size_alloc]; omega
          intro v' w6 hown' hgrow _
          have HNX := Lib.hid (HP5.out.snoc (x := boundK D l) hown' hgrow)
          rw [← HTK.out] at HNX
          clear hout hown' hgrow hbs hol
          go_wp2
          go_roundw
          case rel => exact ⟨k + 1, by go_num, by omega, HNX⟩
          case measure => simp only [intOf]; omega
    · obtain rfl : k = (placed 0 ss).length := by omega
      have HE := Lib.hid hP.out
      go_wp2
      go_ret
      exact ⟨_, rfl, by have h := HE.out.out; rw [List.take_length] at h; exact h, HE.out.below⟩
end Go.Proofs.YtgehpaojbnpbcaaGreatDoor
namespace Go.Proofs.YtgehpaojbnpbcaaGreatDoor
open Go Go.RowKit
/-- The renaming of the items of a list alone. -/
def inF (l : List (Int × Int)) (f : NameF) : NameF := fun i j n => if ((i : Int), (j : Int)) ∈ l then f i j n else n
theorem inF_nil (ss : List Sc) (f : NameF) : renP ss (inF [] f) = ss := by
  rw [show inF [] f = fun _ _ n => n from by funext i j n; unfold inF; rw [if_neg (by simp)], renP_id]
theorem inF_more (ss : List Sc) (l : List (Int × Int)) {f : NameF} {a b : Nat} {nm : ByteArray} (hf : ∀ n, f a b n = nm) : renP (renP ss (inF l f)) (nmAt a b nm) = renP ss (inF (l ++ [((a : Int), (b : Int))]) f) := by
  rw [renP_comp]
  refine renP_congr fun i j s x _ _ => ?_
  unfold nmAt inF
  by_cases h1 : i = a ∧ j = b
  · obtain ⟨rfl, rfl⟩ := h1
    rw [if_pos ⟨rfl, rfl⟩, if_pos (by simp), hf]
  · rw [if_neg h1]
    have h2 : ((i : Int), (j : Int)) ∈ l ++ [((a : Int), (b : Int))] ↔ ((i : Int), (j : Int)) ∈ l := by
      simp only [List.mem_append, List.mem_singleton, Prod.mk.injEq]
      exact ⟨fun h => h.elim id fun h => absurd ⟨by omega, by omega⟩ h1, Or.inl⟩
    by_cases h3 : ((i : Int), (j : Int)) ∈ l
    · rw [if_pos h3, if_pos (h2.2 h3)]
    · rw [if_neg h3, if_neg (fun h => h3 (h2.1 h))]
theorem inF_all (ss : List Sc) (f : NameF) : renP ss (inF (plsAll (placed 0 ss)) f) = renP ss f := by
  refine renP_congr fun i j s x hs hx => ?_
  unfold inF
  rw [if_pos]
  unfold plsAll
  exact List.mem_map.2 ⟨(i, j, x), placed_of hs hx, rfl⟩
theorem ext_one {names : ByteArray} {n : Nat} (h : n < names.size) : names.extract n (n + 1) = nmK names (n : Int) := by
  have h1 : n < names.data.toList.length := by rw [Array.length_toList]; exact h
  unfold nmK
  rw [if_neg (by omega), Int.toNat_natCast, List.getElem?_eq_getElem h1, Option.getD_some]
  apply bytes_of
  rw [ByteArray.data_extract, Array.toList_extract]
  refine List.ext_getElem? fun k => ?_
  cases k with
  | zero =>
    simp [List.extract]
  | succ k =>
    simp [List.extract]
    omega
theorem mnt_at {ss : List Sc} {k : Nat} {q : Nat × Nat × It} (h : (placed 0 ss)[k]? = some q) : (mntL ss (placed 0 ss))[k]? = some (boundK (dclP ss) (meanIt ss q)) := by
  unfold mntL
  rw [List.getElem?_map, h]
  rfl
/-- Blocks that were made between two worlds lie as they lay. -/
structure KeepAt (w4 w5 w : World) : Prop where
  size : w5.heap.size ≤ w.heap.size
  same : ∀ b, w4.heap.size ≤ b → b < w5.heap.size → w.heap[b]? = w5.heap[b]?
theorem KeepAt.refl (w4 w5 : World) : KeepAt w4 w5 w5 := ⟨Nat.le_refl _, fun _ _ _ => rfl⟩
theorem KeepAt.below {w4 w5 w w' : World} (h : KeepAt w4 w5 w) (hb : Below w.heap.size w w') : KeepAt w4 w5 w' :=
  ⟨Nat.le_trans h.size hb.size, fun b h1 h2 => (hb.block b (Nat.lt_of_lt_of_le h2 h.size)).trans (h.same b h1 h2)⟩
theorem KeepAt.set {w4 w5 w W : World} (h : KeepAt w4 w5 w) (hb : Below w.heap.size w W) {g n : Nat} (hg : g < w4.heap.size) {u : Value} : KeepAt w4 w5 (W.setCell ⟨g, n, none⟩ u) :=
  ⟨by have := (h.below hb).size; simpa using this, fun b h1 h2 => (Below.heap_setCell _ _ _ _ (by show b ≠ g; omega)).trans ((h.below hb).same b h1 h2)⟩
theorem KeepAt.args {w4 w5 w : World} (h : KeepAt w4 w5 w) {o : Option Addr} {l : List (Int × Int)} (ha : ArgPlaces w5 o l) (ho : ∀ b f, o = some ⟨b, f, none⟩ → w4.heap.size ≤ b) : ArgPlaces w o l := by
  rcases ha with ha | ⟨b, f, rfl, hb, hc⟩
  · exact .inl ha
  · refine .inr ⟨b, f, rfl, Nat.lt_of_lt_of_le hb h.size, fun i p hp => ?_⟩
    have h1 := hc i p hp
    have h2 := h.same b (ho b f rfl) hb
    exact ⟨(World.cell?_of_block (a := ⟨b, f + i * 2, none⟩) h2).trans h1.1, (World.cell?_of_block (a := ⟨b, f + i * 2 + 1, none⟩) h2).trans h1.2⟩
set_option maxRecDepth 100000 in
set_option maxHeartbeats 8000000 in
theorem l9Put_any (ss : List Sc) (hF : Fair ss) (oa om : Option Addr) (cap cm : Nat) (names : ByteArray) (hok : nmgOk ss names) (w : World) (hc : HoldsScopes w oa ss) (hm : HoldsInts w om (mntL ss (placed 0 ss))) :
    Calls Tryz.prog 108 #[.agg #[.slice oa ss.length cap], .slice om (mntL ss (placed 0 ss)).length cm, .string names] w fun e w' => ∃ v hs, e = .returned (.agg #[v]) ∧ OwnGr w' w.heap.size v (nmgG ss names) hs ∧ Below w.heap.size w w' := by
  have hv := hok.1.1
  have hb0 := ((Below.refl w.heap.size w).alloc (Nat.le_refl _) (.cells #[.slice oa ss.length cap] 28)).alloc (by simp) (.cells #[.slice none 0 0] 28)
  have R1 := (Row.new w [.slice oa ss.length cap] 28).alloc (.cells #[.slice none 0 0] 28)
  have R2 := Row.new (w.alloc (.cells #[.slice oa ss.length cap] 28)) [.slice none 0 0] 28
  rw [World.size_alloc] at R2
  have h30 := placed_bound 0 ss 6 5 hv.count.2 hv.five
  have C := Lib.hid (specCopy_any ss oa cap hF.count (fun s hs => by have := hv.five s hs; omega) _ (hc.below hb0 (Nat.le_refl _)))
  have C2 := Lib.hid (fun W (hW : Below w.heap.size w W) => l4Items_any ss (by have := hv.count.2; omega) (fun s hs => by have := hv.five s hs; omega) (by omega) oa cap W (hc.below hW (Nat.le_refl _)))
  have HB := Lib.hid hb0
  have HR1 := Lib.hid R1
  have HR2 := Lib.hid R2
  have HM := Lib.hid hm
  have HOK := Lib.hid hok
  have HV := Lib.hid hv
  have H30 := Lib.hid h30
  have HLN : Hid ((plsAll (placed 0 ss)).length = (placed 0 ss).length) := Lib.hid (plsAll_length _)
  have HML : Hid ((mntL ss (placed 0 ss)).length = (placed 0 ss).length) := Lib.hid (by unfold mntL; rw [List.length_map])
  have g1 := R1.cell (i := 0) (v := .slice oa ss.length cap) (by rfl)
  have hsz0 : Hid (((w.alloc (.cells #[.slice oa ss.length cap] 28)).alloc (.cells #[.slice none 0 0] 28)).heap.size = w.heap.size + 2) := Lib.hid (by simp)
  clear hc hb0 R1 R2 hm hv hF hok h30
  rw [HML.out]
  go_enter Tryz.func108, Tryz.ntmps108
  go_wp2_with fail
  refine C.out.mono ?_
  rintro e w3 ⟨v, hs, rfl, hO, hb3⟩
  obtain ⟨gs, cs, rfl⟩ : ∃ gs cs, v = .slice (some ⟨gs, 0, none⟩) ss.length cs := by
    obtain ⟨hl, h2 | ⟨g, c, cur, hv, hB, hh, _⟩⟩ := hO.row
    · have := h2.2; have := HV.out.count.1; omega
    · exact ⟨g, c, hv⟩
  have hbA := (Below.refl w3.heap.size w3).alloc (Nat.le_refl _) (.cells #[.slice (some ⟨gs, 0, none⟩) ss.length cs] 28)
  have RH := Row.new w3 [.slice (some ⟨gs, 0, none⟩) ss.length cs] 28
  have HG0 : Hid (GrIn (w3.alloc (.cells #[.slice (some ⟨gs, 0, none⟩) ss.length cs] 28)) (w.heap.size + 2) w3.heap.size gs cs ss hs) := Lib.hid ⟨RH, by have h := hO.below hbA; rw [hsz0.out] at h; exact h⟩
  have HX3 := Lib.hid (HB.out.trans ((hb3.trans (hbA.mono hb3.size)).mono HB.out.size))
  have HR2b := Lib.hid (HR2.out.below (hb3.trans (hbA.mono hb3.size)) HR2.out.lt)
  have HZ3 : Hid (w.heap.size + 2 ≤ (w3.alloc (.cells #[.slice (some ⟨gs, 0, none⟩) ss.length cs] 28)).heap.size) := Lib.hid (by have := (hb3.trans (hbA.mono hb3.size)).size; rw [hsz0.out] at this; exact this)
  have g2 := (HR1.out.below (hb3.trans (hbA.mono hb3.size)) HR1.out.lt).cell (i := 0) (v := .slice oa ss.length cap) (by rfl)
  have HSL : Hid (ss.length ≤ 6 ∧ ∀ s ∈ ss, s.items.length ≤ 5) := Lib.hid ⟨HV.out.count.2, HV.out.five⟩
  clear hO hb3 hbA RH g1
  go_wp2_with fail
  generalize w3.heap.size = g at *
  generalize w3.alloc (.cells #[.slice (some ⟨gs, 0, none⟩) ss.length cs] 28) = w4 at *
  refine (C2.out _ HX3.out).mono ?_
  rintro e w5 ⟨tl, rfl, htl, hb5⟩
  obtain ⟨ot, ct, rfl, hat⟩ := argPlaces_of_owns htl
  have HA := Lib.hid (And.intro hat (show ∀ b f, ot = some ⟨b, f, none⟩ → w4.heap.size ≤ b from fun b f e => by
    subst e
    obtain ⟨_, h2 | ⟨g', c', cur', hv', hB', _⟩⟩ := htl
    · have := h2.1; simp at this
    · simp only [Value.slice.injEq, Option.some.injEq, Addr.mk.injEq] at hv'
      omega))
  have HP0 : Hid (GrIn w5 (w.heap.size + 2) g gs cs ss hs ∧ Below w.heap.size w w5 ∧ Row w5 (w.heap.size + 1) 28 [.slice none 0 0] ∧ w.heap.size + 2 ≤ w5.heap.size) := Lib.hid
    ⟨HG0.out.below hb5, HX3.out.trans (hb5.mono HX3.out.size), HR2b.out.below hb5 HR2b.out.lt, Nat.le_trans HZ3.out hb5.size⟩
  rw [HLN.out]
  have h30 := H30.out
  have hm30 := HML.out
  clear htl hat hb5 g2
  go_wp2
  go_loopw [16] (fun i wr => ∃ k : Nat, i = .int .i64 k ∧ k ≤ (placed 0 ss).length ∧ Hid (GrIn wr (w.heap.size + 2) g gs cs (renP ss (inF ((plsAll (placed 0 ss)).take k) (nmgF ss names))) hs ∧ Below w.heap.size w wr ∧ Row wr (w.heap.size + 1) 28 [.slice none 0 0] ∧ w.heap.size + 2 ≤ wr.heap.size ∧ KeepAt w4 w5 wr)) (fun i _ => (placed 0 ss).length - (intOf i).toNat)
  case atStart => exact ⟨0, rfl, Nat.zero_le _, Lib.hid ⟨by rw [List.take_zero, inF_nil]; exact HP0.out.1, HP0.out.2.1, HP0.out.2.2.1, HP0.out.2.2.2, KeepAt.refl _ _⟩⟩
  case round =>
    obtain ⟨k, rfl, hk, hP⟩ := hrel
    by_cases hlt : k < (placed 0 ss).length
    · obtain ⟨⟨ci, cj, x⟩, hq⟩ : ∃ q, (placed 0 ss)[k]? = some q := ⟨_, List.getElem?_eq_getElem hlt⟩
      have hqm := List.mem_of_getElem? hq
      have hd := plsAll_at hq
      dsimp only at hd
      obtain ⟨c, hcs, hcx⟩ := placed_at hqm
      dsimp only at hcs hcx
      obtain ⟨b2, f2, rfl, hb2, q2⟩ := (show ArgPlaces wr ot (plsAll (placed 0 ss)) from hP.out.2.2.2.2.args HA.out.1 HA.out.2).at (by rw [HLN.out]; omega)
      obtain ⟨x0, x1⟩ := q2 k _ hd
      dsimp only at x0 x1
      have hmk := mnt_at hq
      rw [← meanAt_of hqm] at hmk
      obtain ⟨bm, fm, rfl, hbm, hcm⟩ : ∃ bm fm, om = some ⟨bm, fm, none⟩ ∧ bm < w.heap.size ∧ ∀ i x, (mntL ss (placed 0 ss))[i]? = some x → w.cell? ⟨bm, fm + i, none⟩ = some (.int .i64 x) := by
        rcases HM.out with h | h
        · rw [h] at hmk; simp at hmk
        · exact h
      have HMC := Lib.hid (hcm k _ hmk)
      have hM := (hP.out.2.1.cell (p := ⟨bm, fm + k, none⟩) hbm).trans (hcm k _ hmk)
      have hMA := ((hP.out.2.1.alloc hP.out.2.1.size (.cells #[.int .i64 (ci : Int), .int .i64 (cj : Int)] 59)).cell (p := ⟨bm, fm + k, none⟩) hbm).trans (hcm k _ hmk)
      have hcil := (List.getElem?_eq_some_iff.1 hcs).1
      have hcjl := (List.getElem?_eq_some_iff.1 hcx).1
      obtain ⟨nm, hnm⟩ : ∃ nm, nmK names (boundK (dclP ss) (meanAt ss (ci : Int) (cj : Int))) = nm := ⟨_, rfl⟩
      obtain ⟨m, hme⟩ : ∃ m, boundK (dclP ss) (meanAt ss (ci : Int) (cj : Int)) = m := ⟨_, rfl⟩
      have HMR : Hid (-1 ≤ m ∧ m < (names.size : Int)) := Lib.hid (by have h := boundK_range (dclP ss) (meanAt ss (ci : Int) (cj : Int)); rw [hme] at h; have := HOK.out.2.1; omega)
      have HMN : Hid (nmK names m = nm) := Lib.hid (by rw [← hme]; exact hnm)
      rw [hme] at hM hMA
      have hbW := (Below.refl wr.heap.size wr).alloc (Nat.le_refl _) (.cells #[.int .i64 (ci : Int), .int .i64 (cj : Int)] 59)
      have RQW := Lib.hid (Row.new wr [.int .i64 (ci : Int), .int .i64 (cj : Int)] 59)
      have HBW := Lib.hid hbW
      have hds : (renP ss (inF ((plsAll (placed 0 ss)).take k) (nmgF ss names)))[ci]? = some (renSc (inF ((plsAll (placed 0 ss)).take k) (nmgF ss names)) ci c) := by rw [renP_get, hcs]; rfl
      have hdx : (renSc (inF ((plsAll (placed 0 ss)).take k) (nmgF ss names)) ci c).items[cj]? = some (renIt (inF ((plsAll (placed 0 ss)).take k) (nmgF ss names)) ci cj x) := by rw [renSc_get, hcx]; rfl
      have HNX : Hid (∀ W7 : World, Below wr.heap.size wr W7 → ∃ gi ic n0, (W7.drew).cell? ⟨gs, ci * 2 + 1, none⟩ = some (.slice (some ⟨gi, 0, none⟩) c.items.length ic) ∧ (W7.drew).cell? ⟨g, 0, none⟩ = some (.slice (some ⟨gs, 0, none⟩) ss.length cs) ∧ (W7.drew).cell? ⟨gi, cj * 3 + 1, none⟩ = some (.string n0) ∧ (W7.drew).frozen? ⟨gi, cj * 3 + 1, none⟩ = false ∧
          GrIn ((W7.setCell ⟨gi, cj * 3 + 1, none⟩ (.string nm)).drew) (w.heap.size + 2) g gs cs (renP ss (inF ((plsAll (placed 0 ss)).take (k + 1)) (nmgF ss names))) hs ∧ Below w.heap.size w ((W7.setCell ⟨gi, cj * 3 + 1, none⟩ (.string nm)).drew) ∧ Row ((W7.setCell ⟨gi, cj * 3 + 1, none⟩ (.string nm)).drew) (w.heap.size + 1) 28 [.slice none 0 0] ∧ w.heap.size + 2 ≤ ((W7.setCell ⟨gi, cj * 3 + 1, none⟩ (.string nm)).drew).heap.size ∧ KeepAt w4 w5 ((W7.setCell ⟨gi, cj * 3 + 1, none⟩ (.string nm)).drew)) := Lib.hid (fun W7 hb7 => by
        have hbd := hb7.drew
        have hGD := hP.out.1.below hbd
        obtain ⟨gi, ic, hu, hgB, hgl, hcell, hname, hfro, hgsB, -⟩ := hGD.nameAt hds hdx
        rw [renSc_length] at hcell hu
        have r0 := hGD.row.cell (i := 0) (by rfl)
        rw [renP_length] at r0
        refine ⟨gi, ic, _, hcell, r0, hname, hfro, ?_⟩
        have h1 := hGD.name hds hdx (by rw [renSc_length]; exact hu) nm
        rw [inF_more ss _ (f := nmgF ss names) (a := ci) (b := cj) (nm := nm) (fun _ => hnm), show (plsAll (placed 0 ss)).take k ++ [((ci : Int), (cj : Int))] = (plsAll (placed 0 ss)).take (k + 1) by rw [List.take_add_one, hd]; rfl] at h1
        have hw0 := hP.out.2.1.trans (hbd.mono hP.out.2.1.size)
        have h2 := hP.out.2.2.2.1
        have h3 := hbd.size
        refine ⟨h1, hw0.setCell (by show w.heap.size ≤ gi; omega) _, (hP.out.2.2.1.below hbd hP.out.2.2.1.lt).other (a := ⟨gi, cj * 3 + 1, none⟩) (by show gi ≠ w.heap.size + 1; omega) _, ?_, ?_⟩
        · simp at h3 ⊢
          omega
        · obtain ⟨gi', ic', hu', -, hgl', -⟩ := HG0.out.nameAt hcs hcx
          have he := hu.symm.trans hu'
          simp only [Option.some.injEq, Value.slice.injEq, Addr.mk.injEq] at he
          exact hP.out.2.2.2.2.set hbd (by omega))
      obtain ⟨L, hL⟩ : ∃ L, c.items.length = L := ⟨_, rfl⟩
      rw [hL] at hcjl HNX
      have hi0 : (0 : Int) ≤ (ci : Int) := by omega
      have hi1 : (ci : Int) < (ss.length : Int) := by omega
      have hj0 : (0 : Int) ≤ (cj : Int) := by omega
      have hj1 : (cj : Int) < (L : Int) := by omega
      clear hq hqm hd hcs hcx hds hdx hb2 q2 hmk hcm hL hnm hme hbW
      by_cases h0 : 0 ≤ m
      · obtain ⟨n, rfl⟩ : ∃ n : Nat, m = (n : Int) := ⟨m.toNat, by omega⟩
        have d1 : decide ((n : Int) ≥ 0) = true := by simp
        have hns : n < names.size := by have := HMR.out.2; omega
        have hn30 : names.size ≤ 30 := by have h1 := HOK.out.2.1; have h2 := plsOf_length 1 (placed 0 ss); unfold dclP plsP at h1; omega
        have hwr : IntKind.i64.wrap ((n : Int) + 1) = (n : Int) + 1 := wrap_small _ (by omega) (by omega)
        have hn1 : (n : Int) + 1 ≤ (names.size : Int) := by omega
        have hn2 : (n : Int) ≤ (n : Int) + 1 := by omega
        have hn3 : (0 : Int) ≤ (n : Int) := by omega
        have ht1 : ((n : Int) + 1).toNat = n + 1 := by omega
        have HEX : Hid (names.extract n (n + 1) = nm) := Lib.hid (by rw [ext_one hns, HMN.out])
        have HBD : Hid (∀ (W : World) (q : Nat), World.drewN (wr.alloc (.cells #[.int .i64 (ci : Int), .int .i64 (cj : Int)] 59)) q = W → Below wr.heap.size wr W ∧ Row W wr.heap.size 59 [.int .i64 (ci : Int), .int .i64 (cj : Int)]) := Lib.hid (fun W q e => by
          subst e
          exact ⟨below_drewN HBW.out q, RQW.out.below (below_drewN (Below.refl _ _) q) RQW.out.lt⟩)
        go_wp2
        go_quiet (fail)
        rw [HEX.out]
        generalize hWD : World.drewN _ _ = wD
        have HB7 := Lib.hid (HBD.out _ _ hWD).1
        have RP7 := Lib.hid (HBD.out _ _ hWD).2
        clear hWD
        go_wp2
        obtain ⟨gi, ic, n0, hcell, r0, hname, hfro, hN⟩ := HNX.out _ HB7.out
        have HN := Lib.hid hN
        have k0 := (RP7.out.drew).cell (i := 0) (v := .int .i64 (ci : Int)) (by rfl)
        have k1 := (RP7.out.drew).cell (i := 1) (v := .int .i64 (cj : Int)) (by rfl)
        clear hN hM hMA
        go_wp2
        refine wp_region_kept (S := fun w' => w'.cell? ⟨g, 0, none⟩ = some (.slice (some ⟨gs, 0, none⟩) ss.length cs) ∧ w'.cell? ⟨wr.heap.size, 0, none⟩ = some (.int .i64 (ci : Int)) ∧ w'.cell? ⟨wr.heap.size, 1, none⟩ = some (.int .i64 (cj : Int)) ∧ w'.cell? ⟨gs, ci * 2 + 1, none⟩ = some (.slice (some ⟨gi, 0, none⟩) L ic)) 12 (by kernel_rfl) ?_
        have hS0 := And.intro r0 (And.intro k0 (And.intro k1 hcell))
        refine KeptAny.take (i := 0) (v := ?_) (by kernel_rfl) rfl rfl (by kernel_rfl) (by kernel_rfl) (by kernel_rfl) (fun _ _ _ h => h) (by rfl) (fun w' hw' => ?_) (fun _ => rfl) hS0 ?_
        rotate_left
        · (obtain ⟨g0, g1, g2, g3⟩ := hw'; go_simp; try with_reducible rfl)
        refine KeptAny.take (i := 1) (v := ?_) (by kernel_rfl) rfl rfl (by kernel_rfl) (by kernel_rfl) (by kernel_rfl) (fun _ _ _ h => h) (by rfl) (fun w' hw' => ?_) (fun _ => rfl) hS0 ?_
        rotate_left
        · (obtain ⟨g0, g1, g2, g3⟩ := hw'; go_simp; try with_reducible rfl)
        refine KeptAny.take (i := 2) (v := ?_) (by kernel_rfl) rfl rfl (by kernel_rfl) (by kernel_rfl) (by kernel_rfl) (fun _ _ _ h => h) (by rfl) (fun w' hw' => ?_) (fun _ => rfl) hS0 ?_
        rotate_left
        · (obtain ⟨g0, g1, g2, g3⟩ := hw'; go_simp; try with_reducible rfl)
        refine KeptAny.take (i := 3) (v := ?_) (by kernel_rfl) rfl rfl (by kernel_rfl) (by kernel_rfl) (by kernel_rfl) (fun _ _ _ h => h) (by rfl) (fun w' hw' => ?_) (fun _ => rfl) hS0 ?_
        rotate_left
        · (obtain ⟨g0, g1, g2, g3⟩ := hw'; go_simp; try with_reducible rfl)
        refine KeptAny.take (i := 4) (v := ?_) (by kernel_rfl) rfl rfl (by kernel_rfl) (by kernel_rfl) (by kernel_rfl) (fun _ _ _ h => h) (by rfl) (fun w' hw' => ?_) (fun _ => rfl) hS0 ?_
        rotate_left
        · (obtain ⟨g0, g1, g2, g3⟩ := hw'; go_simp; try with_reducible rfl)
        refine KeptAny.take (i := 5) (v := ?_) (by kernel_rfl) rfl rfl (by kernel_rfl) (by kernel_rfl) (by kernel_rfl) (fun _ _ _ h => h) (by rfl) (fun w' hw' => ?_) (fun _ => rfl) hS0 ?_
        rotate_left
        · (obtain ⟨g0, g1, g2, g3⟩ := hw'; go_simp; try with_reducible rfl)
        refine KeptAny.take (i := 6) (v := ?_) (by kernel_rfl) rfl rfl (by kernel_rfl) (by kernel_rfl) (by kernel_rfl) (fun _ _ _ h => h) (by rfl) (fun w' hw' => ?_) (fun _ => rfl) hS0 ?_
        rotate_left
        · (obtain ⟨g0, g1, g2, g3⟩ := hw'; go_simp; try with_reducible rfl)
        refine KeptAny.take (i := 7) (v := ?_) (by kernel_rfl) rfl rfl (by kernel_rfl) (by kernel_rfl) (by kernel_rfl) (fun _ _ _ h => h) (by rfl) (fun w' hw' => ?_) (fun _ => rfl) hS0 ?_
        rotate_left
        · (obtain ⟨g0, g1, g2, g3⟩ := hw'; go_simp; try with_reducible rfl)
        refine KeptAny.take (i := 8) (v := ?_) (by kernel_rfl) rfl rfl (by kernel_rfl) (by kernel_rfl) (by kernel_rfl) (fun _ _ _ h => h) (by rfl) (fun w' hw' => ?_) (fun _ => rfl) hS0 ?_
        rotate_left
        · (obtain ⟨g0, g1, g2, g3⟩ := hw'; go_simp; try with_reducible rfl)
        refine KeptAny.take (i := 9) (v := ?_) (by kernel_rfl) rfl rfl (by kernel_rfl) (by kernel_rfl) (by kernel_rfl) (fun _ _ _ h => h) (by rfl) (fun w' hw' => ?_) (fun _ => rfl) hS0 ?_
        rotate_left
        · (obtain ⟨g0, g1, g2, g3⟩ := hw'; go_simp; try with_reducible rfl)
        refine KeptAny.one (i := 10) (by kernel_rfl) rfl (by rfl) (fun K hK => ?_)
        go_simp
        refine hK.out _ _ hS0 (fun _ => ?_)
        clear hK
        refine KeptAny.one (i := 11) (by kernel_rfl) rfl (by rfl) (fun K hK => ?_)
        go_simp
        refine hK.out _ _ hS0 (fun _ => ?_)
        clear hK
        refine KeptAny.last (by kernel_rfl) rfl (by rfl) (fun K hK => ?_)
        go_simp
        refine hK.out _ _ ?_
        clear hK
        refine KeptAny.done (by kernel_rfl) ?_ _
        clear hS0 r0 k0 k1 hcell hname hfro
        generalize (wD.setCell ⟨gi, cj * 3 + 1, none⟩ (.string nm)).drew = wS at *
        go_wp2
        go_roundw
        case rel => exact ⟨k + 1, by go_num, by omega, HN⟩
        case measure => simp only [intOf]; omega
      · have d1 : decide (m ≥ 0) = false := by simp; omega
        have HEX : Hid ((⟨#[122]⟩ : ByteArray) = nm) := Lib.hid (by have h := HMN.out; unfold nmK at h; rw [if_pos (by omega)] at h; exact h)
        have HB7 := HBW
        have RP7 := RQW
        go_wp2
        rw [HEX.out]
        obtain ⟨gi, ic, n0, hcell, r0, hname, hfro, hN⟩ := HNX.out _ HB7.out
        have HN := Lib.hid hN
        have k0 := (RP7.out.drew).cell (i := 0) (v := .int .i64 (ci : Int)) (by rfl)
        have k1 := (RP7.out.drew).cell (i := 1) (v := .int .i64 (cj : Int)) (by rfl)
        clear hN hM hMA
        go_wp2
        refine wp_region_kept (S := fun w' => w'.cell? ⟨g, 0, none⟩ = some (.slice (some ⟨gs, 0, none⟩) ss.length cs) ∧ w'.cell? ⟨wr.heap.size, 0, none⟩ = some (.int .i64 (ci : Int)) ∧ w'.cell? ⟨wr.heap.size, 1, none⟩ = some (.int .i64 (cj : Int)) ∧ w'.cell? ⟨gs, ci * 2 + 1, none⟩ = some (.slice (some ⟨gi, 0, none⟩) L ic)) 12 (by kernel_rfl) ?_
        have hS0 := And.intro r0 (And.intro k0 (And.intro k1 hcell))
        refine KeptAny.take (i := 0) (v := ?_) (by kernel_rfl) rfl rfl (by kernel_rfl) (by kernel_rfl) (by kernel_rfl) (fun _ _ _ h => h) (by rfl) (fun w' hw' => ?_) (fun _ => rfl) hS0 ?_
        rotate_left
        · (obtain ⟨g0, g1, g2, g3⟩ := hw'; go_simp; try with_reducible rfl)
        refine KeptAny.take (i := 1) (v := ?_) (by kernel_rfl) rfl rfl (by kernel_rfl) (by kernel_rfl) (by kernel_rfl) (fun _ _ _ h => h) (by rfl) (fun w' hw' => ?_) (fun _ => rfl) hS0 ?_
        rotate_left
        · (obtain ⟨g0, g1, g2, g3⟩ := hw'; go_simp; try with_reducible rfl)
        refine KeptAny.take (i := 2) (v := ?_) (by kernel_rfl) rfl rfl (by kernel_rfl) (by kernel_rfl) (by kernel_rfl) (fun _ _ _ h => h) (by rfl) (fun w' hw' => ?_) (fun _ => rfl) hS0 ?_
        rotate_left
        · (obtain ⟨g0, g1, g2, g3⟩ := hw'; go_simp; try with_reducible rfl)
        refine KeptAny.take (i := 3) (v := ?_) (by kernel_rfl) rfl rfl (by kernel_rfl) (by kernel_rfl) (by kernel_rfl) (fun _ _ _ h => h) (by rfl) (fun w' hw' => ?_) (fun _ => rfl) hS0 ?_
        rotate_left
        · (obtain ⟨g0, g1, g2, g3⟩ := hw'; go_simp; try with_reducible rfl)
        refine KeptAny.take (i := 4) (v := ?_) (by kernel_rfl) rfl rfl (by kernel_rfl) (by kernel_rfl) (by kernel_rfl) (fun _ _ _ h => h) (by rfl) (fun w' hw' => ?_) (fun _ => rfl) hS0 ?_
        rotate_left
        · (obtain ⟨g0, g1, g2, g3⟩ := hw'; go_simp; try with_reducible rfl)
        refine KeptAny.take (i := 5) (v := ?_) (by kernel_rfl) rfl rfl (by kernel_rfl) (by kernel_rfl) (by kernel_rfl) (fun _ _ _ h => h) (by rfl) (fun w' hw' => ?_) (fun _ => rfl) hS0 ?_
        rotate_left
        · (obtain ⟨g0, g1, g2, g3⟩ := hw'; go_simp; try with_reducible rfl)
        refine KeptAny.take (i := 6) (v := ?_) (by kernel_rfl) rfl rfl (by kernel_rfl) (by kernel_rfl) (by kernel_rfl) (fun _ _ _ h => h) (by rfl) (fun w' hw' => ?_) (fun _ => rfl) hS0 ?_
        rotate_left
        · (obtain ⟨g0, g1, g2, g3⟩ := hw'; go_simp; try with_reducible rfl)
        refine KeptAny.take (i := 7) (v := ?_) (by kernel_rfl) rfl rfl (by kernel_rfl) (by kernel_rfl) (by kernel_rfl) (fun _ _ _ h => h) (by rfl) (fun w' hw' => ?_) (fun _ => rfl) hS0 ?_
        rotate_left
        · (obtain ⟨g0, g1, g2, g3⟩ := hw'; go_simp; try with_reducible rfl)
        refine KeptAny.take (i := 8) (v := ?_) (by kernel_rfl) rfl rfl (by kernel_rfl) (by kernel_rfl) (by kernel_rfl) (fun _ _ _ h => h) (by rfl) (fun w' hw' => ?_) (fun _ => rfl) hS0 ?_
        rotate_left
        · (obtain ⟨g0, g1, g2, g3⟩ := hw'; go_simp; try with_reducible rfl)
        refine KeptAny.take (i := 9) (v := ?_) (by kernel_rfl) rfl rfl (by kernel_rfl) (by kernel_rfl) (by kernel_rfl) (fun _ _ _ h => h) (by rfl) (fun w' hw' => ?_) (fun _ => rfl) hS0 ?_
        rotate_left
        · (obtain ⟨g0, g1, g2, g3⟩ := hw'; go_simp; try with_reducible rfl)
        refine KeptAny.one (i := 10) (by kernel_rfl) rfl (by rfl) (fun K hK => ?_)
        go_simp
        refine hK.out _ _ hS0 (fun _ => ?_)
        clear hK
        refine KeptAny.one (i := 11) (by kernel_rfl) rfl (by rfl) (fun K hK => ?_)
        go_simp
        refine hK.out _ _ hS0 (fun _ => ?_)
        clear hK
        refine KeptAny.last (by kernel_rfl) rfl (by rfl) (fun K hK => ?_)
        go_simp
        refine hK.out _ _ ?_
        clear hK
        refine KeptAny.done (by kernel_rfl) ?_ _
        clear hS0 r0 k0 k1 hcell hname hfro
        generalize ((wr.alloc (.cells #[.int .i64 (ci : Int), .int .i64 (cj : Int)] 59)).setCell ⟨gi, cj * 3 + 1, none⟩ (.string nm)).drew = wS at *
        go_wp2
        go_roundw
        case rel => exact ⟨k + 1, by go_num, by omega, HN⟩
        case measure => simp only [intOf]; omega
    · obtain rfl : k = (placed 0 ss).length := by omega
      have hE := hP.out
      rw [← HLN.out, List.take_length, inF_all] at hE
      have l1 := hE.1.row.cell (i := 0) (by rfl)
      have n0 := hE.2.2.1.cell (i := 0) (v := .slice none 0 0) (by rfl)
      have f0 := hE.2.2.1.frozen 0
      have HE := Lib.hid hE
      clear hE
      go_wp2
      have RT := HE.out.2.2.1.set 0 (.slice (some ⟨gs, 0, none⟩) (renP ss (nmgF ss names)).length cs)
      have d0 := RT.cell (i := 0) (v := .slice (some ⟨gs, 0, none⟩) (renP ss (nmgF ss names)).length cs) (by rfl)
      refine bodyPost_ret (v := .agg #[.slice (some ⟨gs, 0, none⟩) (renP ss (nmgF ss names)).length cs]) (by simp [results, Tryz.results108, go_sem, d0]) rfl ⟨_, hs, rfl, ?_, HE.out.2.1.setCell (by simp) _⟩
      refine OwnGr.lower (B := w.heap.size + 2) ?_ (by omega)
      exact ⟨HE.out.1.own.len, ownsRow_otherN HE.out.1.own.row HE.out.2.2.1 (by decide) 0 _, fun k t z h1 h2 => ownsRow_otherN (HE.out.1.own.items k t z h1 h2) HE.out.2.2.1 (by decide) 0 _, HE.out.1.own.apart⟩
end Go.Proofs.YtgehpaojbnpbcaaGreatDoor
namespace Go.Proofs.YtgehpaojbnpbcaaGreatDoor
open Go Go.RowKit
theorem ints_of_owns {w : World} {B : Nat} {v : Value} {l : List Int} (h : w.ownsRow B 3 1 v l.length (intVs l)) : ∃ oa cap, v = .slice oa l.length cap ∧ HoldsInts w oa l := by
  obtain ⟨hl, h2 | ⟨g, cap, cur, hv, hB, hh, hn, _, hs, ht⟩⟩ := id h
  · exact ⟨none, 0, by rw [h2.1, h2.2], .inl (List.eq_nil_of_length_eq_zero h2.2)⟩
  · refine ⟨_, cap, hv, .inr ⟨g, 0, rfl, (Array.getElem?_eq_some_iff.1 hh).1, fun i x hx => ?_⟩⟩
    have h3 := h.cells (g := g) (by rw [hv]; rfl) i (.int .i64 x) (by unfold intVs; rw [List.getElem?_map, hx]; rfl)
    rw [Addr.add_lit] at h3
    exact h3
set_option maxRecDepth 100000 in
set_option maxHeartbeats 8000000 in
theorem l9Named_any (ss : List Sc) (hF : Fair ss) (oa : Option Addr) (cap : Nat) (names : ByteArray) (hok : nmgOk ss names) (w : World) (hc : HoldsScopes w oa ss) :
    Calls Tryz.prog 89 #[.agg #[.slice oa ss.length cap], .string names] w fun e w' => ∃ v hs, e = .returned (.agg #[v]) ∧ OwnGr w' w.heap.size v (nmgG ss names) hs ∧ Below w.heap.size w w' := by
  have hb0 := ((Below.refl w.heap.size w).alloc (Nat.le_refl _) (.cells #[.slice oa ss.length cap] 28)).alloc (by simp) (.cells #[.slice none 0 0] 28)
  have R1 := Lib.hid ((Row.new w [.slice oa ss.length cap] 28).alloc (.cells #[.slice none 0 0] 28))
  have R2 := Row.new (w.alloc (.cells #[.slice oa ss.length cap] 28)) [.slice none 0 0] 28
  rw [World.size_alloc] at R2
  have R2 := Lib.hid R2
  have HB := Lib.hid hb0
  have HSZ : Hid (w.heap.size + 2 = ((w.alloc (.cells #[.slice oa ss.length cap] 28)).alloc (.cells #[.slice none 0 0] 28)).heap.size) := Lib.hid (by simp)
  have C1 := Lib.hid (fun W (hW : Below w.heap.size w W) => l9Meant_any ss hok.1.1 hF.fits oa cap W (hc.below hW (Nat.le_refl _)))
  have C2 := Lib.hid (fun W (hW : Below w.heap.size w W) om cm (hm : HoldsInts W om (mntL ss (placed 0 ss))) => l9Put_any ss hF oa om cap cm names hok W (hc.below hW (Nat.le_refl _)) hm)
  have g1 := R1.out.cell (i := 0) (v := .slice oa ss.length cap) (by rfl)
  clear hb0 hF hc hok
  go_enter Tryz.func89, Tryz.ntmps89
  go_wp2
  generalize (w.alloc (.cells #[.slice oa ss.length cap] 28)).alloc (.cells #[.slice none 0 0] 28) = w1 at *
  have HD0 : Hid (Below w1.heap.size w1 w1.drew) := Lib.hid ((Below.refl _ _).drew)
  refine wp_region_kept (S := fun w' => w'.cell? ⟨w.heap.size, 0, none⟩ = some (.slice oa ss.length cap)) 5 (by kernel_rfl) ?_
  have hS0 : w1.drew.cell? ⟨w.heap.size, 0, none⟩ = some (.slice oa ss.length cap) := cell_drew g1
  have HS0 := Lib.hid hS0
  refine KeptAny.take (i := 0) (v := ?_) (by kernel_rfl) rfl rfl (by kernel_rfl) (by kernel_rfl) (by kernel_rfl) (fun _ _ _ h => h) (by rfl) (fun w' hw' => ?_) (fun _ => rfl) hS0 ?_
  rotate_left
  · (have g0 := hw'; go_simp; try with_reducible rfl)
  refine KeptAny.take (i := 1) (v := ?_) (by kernel_rfl) rfl rfl (by kernel_rfl) (by kernel_rfl) (by kernel_rfl) (fun _ _ _ h => h) (by rfl) (fun w' hw' => ?_) (fun _ => rfl) hS0 ?_
  rotate_left
  · (have g0 := hw'; go_simp; try with_reducible rfl)
  refine KeptAny.take (i := 3) (v := ?_) (by kernel_rfl) rfl rfl (by kernel_rfl) (by kernel_rfl) (by kernel_rfl) (fun _ _ _ h => h) (by rfl) (fun w' hw' => ?_) (fun _ => rfl) hS0 ?_
  rotate_left
  · (have g0 := hw'; go_simp; try with_reducible rfl)
  clear hS0 g1
  refine KeptAny.one (i := 2) (by kernel_rfl) rfl (by rfl) (fun K hK => ?_)
  go_simp
  refine ⟨trivial, ?_⟩
  refine ((callsIn_wide (n := 5)).2 (C1.out _ (HB.out.trans (HD0.out.mono HB.out.size)))).mono ?_
  rintro e w2 ⟨v2, rfl, hown, hb2⟩
  obtain ⟨om, cm, rfl, hin⟩ := ints_of_owns hown
  have HX2 := Lib.hid (HD0.out.trans (hb2.mono HD0.out.size))
  have HIN := Lib.hid hin
  have hS1 := cell_grow hb2 HS0.out
  have HS1 := Lib.hid hS1
  refine hK.out _ _ hS1 (fun _ => ?_)
  clear hK hown hin hb2 hS1
  refine KeptAny.one (i := 4) (by kernel_rfl) rfl (by rfl) (fun K hK => ?_)
  go_simp
  refine ⟨trivial, ?_⟩
  refine ((callsIn_wide (n := 5)).2 (C2.out _ (HB.out.trans (HX2.out.mono HB.out.size)) om cm HIN.out)).mono ?_
  rintro e w5 ⟨v5, hs5, rfl, hO, hb5⟩
  obtain ⟨ov, cv, rfl, -⟩ := hO.holds
  have HX5 := Lib.hid (HX2.out.trans (hb5.mono HX2.out.size))
  have R2b := Lib.hid (R2.out.below HX5.out R2.out.lt)
  have HO := Lib.hid (hO.lower HX2.out.size)
  have HB5 := Lib.hid (HB.out.trans (HX5.out.mono HB.out.size))
  have hS5 := cell_grow hb5 HS1.out
  have n0 := R2b.out.cell (i := 0) (v := .slice none 0 0) (by rfl)
  have f0 := R2b.out.frozen 0
  refine hK.out _ _ hS5 (fun _ => ?_)
  clear hK hO hb5 hS5
  refine KeptAny.last (by kernel_rfl) rfl (by rfl) (fun K hK => ?_)
  go_simp
  refine hK.out _ _ ?_
  clear hK
  refine KeptAny.done (by kernel_rfl) ?_ _
  have RT := R2b.out.set 0 (.slice ov (nmgG ss names).length cv)
  have d0 := RT.cell (i := 0) (v := .slice ov (nmgG ss names).length cv) (by rfl)
  go_wp2
  refine bodyPost_ret (v := .agg #[.slice ov (nmgG ss names).length cv]) (by simp [results, Tryz.results89, go_sem, d0]) rfl ⟨_, hs5, rfl, ?_, HB5.out.setCell (by simp) _⟩
  exact ⟨HO.out.len, ownsRow_otherN (ownsRow_lower HO.out.row HB.out.size) R2b.out (by decide) 0 _, fun k t z h1 h2 => ownsRow_otherN (ownsRow_lower (HO.out.items k t z h1 h2) HB.out.size) R2b.out (by decide) 0 _, HO.out.apart⟩
set_option maxRecDepth 100000 in
set_option maxHeartbeats 8000000 in
theorem rawNamed_any (ss : List Sc) (hF : Fair ss) (oa : Option Addr) (cap : Nat) (names : ByteArray) (hns : names.size ≤ 1048576) (w : World) (hc : HoldsScopes w oa ss) :
    Calls Tryz.prog 58 #[.agg #[.slice oa ss.length cap], .string names] w (RawGr (nmgOk ss names) (nmgG ss names) w) := by
  have hb0 := ((Below.refl w.heap.size w).alloc (Nat.le_refl _) (.cells #[.slice oa ss.length cap] 28)).alloc (by simp) (.cells #[.slice none 0 0] 28)
  have R1 := Lib.hid ((Row.new w [.slice oa ss.length cap] 28).alloc (.cells #[.slice none 0 0] 28))
  have R2 := Row.new (w.alloc (.cells #[.slice oa ss.length cap] 28)) [.slice none 0 0] 28
  rw [World.size_alloc] at R2
  have R2 := Lib.hid R2
  have HB := Lib.hid hb0
  have HC := Lib.hid hc
  have HF := Lib.hid hF
  have C := Lib.hid (l9Clear_any ss hF oa cap _ (hc.below hb0 (Nat.le_refl _)))
  have g1 := R1.out.cell (i := 0) (v := .slice oa ss.length cap) (by rfl)
  have hlen : names.data.toList.length = names.size := by rw [Array.length_toList]; rfl
  have HL := Lib.hid hlen
  clear hb0 hF hc hlen
  go_enter Tryz.func58, Tryz.ntmps58
  go_wp2_with fail
  refine C.out.mono ?_
  rintro e w1 ⟨b, rfl, hv, hb1⟩
  have HB1 := Lib.hid (HB.out.trans (hb1.mono HB.out.size))
  have R1a := Lib.hid (R1.out.below hb1 R1.out.lt)
  have R2a := Lib.hid (R2.out.below hb1 R2.out.lt)
  have HV := Lib.hid hv
  have g1 := R1a.out.cell (i := 0) (v := .slice oa ss.length cap) (by rfl)
  clear hv hb1
  cases b
  · have HN : Hid (¬ nmgOk ss names) := Lib.hid (fun h => by have := HV.out.2 h.1; cases this)
    have n0 := R2a.out.cell (i := 0) (v := .slice none 0 0) (by rfl)
    have f0 := R2a.out.frozen 0
    go_wp2
    have RT := R2a.out.set 0 (.slice none 0 0)
    have d0 := RT.cell (i := 0) (v := .slice none 0 0) (by rfl)
    exact bodyPost_ret (v := .tuple #[.agg #[.slice none 0 0], .bool false]) (by simp [results, Tryz.results58, go_sem, d0]) rfl (.inl ⟨HN.out, rfl, HB1.out.setCell (by simp) _⟩)
  · have HCL := Lib.hid (HV.out.1 rfl)
    go_wp2_with fail
    refine (l1Places_any ss HCL.out.1.count.2 HCL.out.1.five oa cap 1 _ (HC.out.below HB1.out (Nat.le_refl _))).mono ?_
    rintro e w2 ⟨vD, rfl, hD, hb2⟩
    obtain ⟨oD, cD, rfl, -⟩ := argPlaces_of_owns hD
    have HB2 := Lib.hid (HB1.out.trans (hb2.mono HB1.out.size))
    have R1b := Lib.hid (R1a.out.below hb2 R1a.out.lt)
    have R2b := Lib.hid (R2a.out.below hb2 R2a.out.lt)
    have n0 := R2b.out.cell (i := 0) (v := .slice none 0 0) (by rfl)
    have f0 := R2b.out.frozen 0
    clear hD hb2 g1
    by_cases hsz : names.size = (plsP ss 1).length
    · have e1 : ((names.size : Int) != ((plsP ss 1).length : Int)) = false := by simp [hsz]
      have e2 : ((names.size : Int) == ((plsP ss 1).length : Int)) = true := by simp [hsz]
      have HSZ := Lib.hid hsz
      clear hsz
      go_wp2
      go_loopw [21] (fun i wr => ∃ k : Nat, i = .int .i64 k ∧ k ≤ names.size ∧ Hid (∀ (j : Nat) (b : UInt8), j < k → names.data.toList[j]? = some b → 97 ≤ b.toNat ∧ b.toNat ≤ 121) ∧ Hid (Below w2.heap.size w2 wr)) (fun i _ => names.size - (intOf i).toNat)
      case atStart => exact ⟨0, rfl, Nat.zero_le _, Lib.hid (fun j b h => by omega), Lib.hid (Below.refl _ _)⟩
      case round =>
        obtain ⟨k, rfl, hk, hP, hW⟩ := hrel
        by_cases hkl : k < names.size
        · have hkl' : k < names.data.toList.length := by rw [HL.out]; exact hkl
          have hsk : names.data.toList[k]'hkl' = names[k]'hkl := rfl
          obtain ⟨c, hce⟩ : ∃ c, names[k]'hkl = c := ⟨_, rfl⟩
          have HCC : Hid (names.data.toList[k]? = some c) := Lib.hid (by rw [List.getElem?_eq_getElem hkl', hsk, hce])
          have hcl := c.toNat_lt
          clear hsk
          have hcw : IntKind.i64.wrap (c.toNat : Int) = (c.toNat : Int) := wrap_small _ (by omega) (by omega)
          obtain ⟨q, hq⟩ : ∃ q, inB (c.toNat : Int) 97 121 = q := ⟨_, rfl⟩
          have HQ := Lib.hid hq
          have CI := Lib.hid (fun W => l1In_below (c.toNat : Int) 97 121 W)
          rw [hq] at CI
          clear hq
          go_wp2_with fail
          refine (CI.out _).mono ?_
          rintro e w3 ⟨rfl, hb3⟩
          have HW3 := Lib.hid (hW.out.trans (hb3.mono hW.out.size))
          have HB3 := Lib.hid (HB2.out.trans (HW3.out.mono HB2.out.size))
          have R2c := Lib.hid (R2b.out.below HW3.out R2b.out.lt)
          clear hb3 n0 f0
          cases q
          · have HN : Hid (¬ nmgOk ss names) := Lib.hid (fun h => by
              have h1 := h.2.2 c (List.mem_of_getElem? HCC.out)
              have h2 := HQ.out
              unfold inB at h2
              simp at h2
              omega)
            have n0 := R2c.out.cell (i := 0) (v := .slice none 0 0) (by rfl)
            have f0 := R2c.out.frozen 0
            go_wp2
            have RT := R2c.out.set 0 (.slice none 0 0)
            have d0 := RT.cell (i := 0) (v := .slice none 0 0) (by rfl)
            exact bodyPost_ret (v := .tuple #[.agg #[.slice none 0 0], .bool false]) (by simp [results, Tryz.results58, go_sem, d0]) rfl (.inl ⟨HN.out, rfl, HB3.out.setCell (by simp) _⟩)
          · have HP2 : Hid (∀ (j : Nat) (b : UInt8), j < k + 1 → names.data.toList[j]? = some b → 97 ≤ b.toNat ∧ b.toNat ≤ 121) := Lib.hid (fun j b hj hb => by
              by_cases e : j = k
              · subst e
                rw [HCC.out] at hb
                cases hb
                have h2 := HQ.out
                unfold inB at h2
                simp at h2
                omega
              · exact hP.out j b (by omega) hb)
            go_wp2
            go_roundw
            case rel => exact ⟨k + 1, by go_num, by omega, HP2, HW3⟩
            case measure => simp only [intOf]; omega
        · obtain rfl : k = names.size := by omega
          have HOK : Hid (nmgOk ss names) := Lib.hid ⟨HCL.out, HSZ.out, fun b hb => by
            obtain ⟨j, hj⟩ := List.mem_iff_getElem?.1 hb
            have hjl := (List.getElem?_eq_some_iff.1 hj).1
            exact hP.out j b (by have := HL.out; omega) hj⟩
          have HBW := Lib.hid (HB2.out.trans (hW.out.mono HB2.out.size))
          have R1c := Lib.hid (R1b.out.below hW.out R1b.out.lt)
          have R2c := Lib.hid (R2b.out.below hW.out R2b.out.lt)
          have g1 := R1c.out.cell (i := 0) (v := .slice oa ss.length cap) (by rfl)
          have C9 := Lib.hid (l9Named_any ss HF.out oa cap names HOK.out _ (HC.out.below HBW.out (Nat.le_refl _)))
          clear n0 f0
          go_wp2_with fail
          refine C9.out.mono ?_
          rintro e w5 ⟨v5, hs5, rfl, hO, hb5⟩
          obtain ⟨ov, cv, rfl, -⟩ := hO.holds
          have HB5 := Lib.hid (HBW.out.trans (hb5.mono HBW.out.size))
          have R2d := Lib.hid (R2c.out.below hb5 R2c.out.lt)
          have HO := Lib.hid hO
          have n0 := R2d.out.cell (i := 0) (v := .slice none 0 0) (by rfl)
          have f0 := R2d.out.frozen 0
          clear hO hb5 g1
          go_wp2
          have RT := R2d.out.set 0 (.slice ov (nmgG ss names).length cv)
          have d0 := RT.cell (i := 0) (v := .slice ov (nmgG ss names).length cv) (by rfl)
          refine bodyPost_ret (v := .tuple #[.agg #[.slice ov (nmgG ss names).length cv], .bool true]) (by simp [results, Tryz.results58, go_sem, d0]) rfl (.inr ⟨HOK.out, ov, cv, rfl, ?_, HB5.out.setCell (by simp) _⟩)
          exact OwnGr.holdsAtR ⟨HO.out.len, ownsRow_otherN HO.out.row R2d.out (by decide) 0 _, fun k t z h1 h2 => ownsRow_otherN (HO.out.items k t z h1 h2) R2d.out (by decide) 0 _, HO.out.apart⟩
    · have HN : Hid (¬ nmgOk ss names) := Lib.hid (fun h => hsz h.2.1)
      have e1 : ((names.size : Int) != ((plsP ss 1).length : Int)) = true := by simp; omega
      have e2 : ((names.size : Int) == ((plsP ss 1).length : Int)) = false := by simp; omega
      go_wp2
      have RT := R2b.out.set 0 (.slice none 0 0)
      have d0 := RT.cell (i := 0) (v := .slice none 0 0) (by rfl)
      exact bodyPost_ret (v := .tuple #[.agg #[.slice none 0 0], .bool false]) (by simp [results, Tryz.results58, go_sem, d0]) rfl (.inl ⟨HN.out, rfl, HB2.out.setCell (by simp) _⟩)
theorem nmgOk.fair {ss : List Sc} (hF : Fair ss) {names : ByteArray} (h : nmgOk ss names) : Fair (nmgG ss names) := hF.ren fun i j _ x _ _ => h.size i j x.name
set_option maxRecDepth 100000 in
set_option maxHeartbeats 4000000 in
theorem specNamed_any (ss : List Sc) (hF : Fair ss) (oa : Option Addr) (cap : Nat) (nm : ByteArray) (hns : nm.size ≤ 1048576) (w : World) (hc : HoldsScopes w oa ss) :
    Calls Tryz.prog 34 #[.agg #[.slice oa ss.length cap], .string nm] w (GrGot (nmgOk ss nm) (nmgG ss nm) w) := by
  have hb0 := ((Below.refl w.heap.size w).alloc (Nat.le_refl _) (.cells #[.slice oa ss.length cap] 28)).alloc (by simp) (.cells #[.slice none 0 0] 28)
  have R1 := Lib.hid ((Row.new w [.slice oa ss.length cap] 28).alloc (.cells #[.slice none 0 0] 28))
  have R3 := Row.new (w.alloc (.cells #[.slice oa ss.length cap] 28)) [.slice none 0 0] 28
  rw [World.size_alloc] at R3
  have R3 := Lib.hid R3
  have C := Lib.hid (rawNamed_any ss hF oa cap nm hns _ (hc.below hb0 (Nat.le_refl _)))
  have HB := Lib.hid hb0
  have HF := Lib.hid hF
  have g1 := R1.out.cell (i := 0) (v := .slice oa ss.length cap) (by rfl)
  clear hF hc hb0
  go_enter Tryz.func34, Tryz.ntmps34
  go_wp2_with fail
  refine C.out.mono ?_
  rintro e w1 (⟨hn, rfl, hb1⟩ | ⟨hh, ov, cv, rfl, hho, hb1⟩)
  · have hbx := hb1.trans ((Below.refl w1.heap.size w1).alloc (Nat.le_refl _) (.cells #[.slice none 0 0] 28) |>.mono hb1.size)
    have HB1 := Lib.hid (HB.out.trans (hbx.mono HB.out.size))
    have HR3a := Lib.hid (R3.out.below hbx R3.out.lt)
    have RX := (Row.new w1 [.slice none 0 0] 28).cell (i := 0) (by rfl)
    have HN := Lib.hid hn
    have C2 := Lib.hid (ownGraph_any [] none 0 (by simp) (fun s hs => by cases hs) (w1.alloc (.cells #[.slice none 0 0] 28)) (.inl rfl))
    clear hb1 hbx hn g1
    go_wp2_with fail
    refine C2.out.mono ?_
    rintro e w2 ⟨v, hs, rfl, hO, hb2⟩
    obtain ⟨ov2, cv2, rfl, -⟩ := hO.holds
    have HO := Lib.hid (hO.lower HB1.out.size)
    have HB2 := Lib.hid (HB1.out.trans (hb2.mono HB1.out.size))
    have HR3b := Lib.hid (HR3a.out.below hb2 HR3a.out.lt)
    have m0 := HR3b.out.cell (i := 0) (v := .slice none 0 0) (by rfl)
    have l0 := HR3b.out.frozen 0
    clear hO hb2 RX
    go_wp2
    have RT := HR3b.out.set 0 (.slice ov2 ([] : List Sc).length cv2)
    have d0 := RT.cell (i := 0) (v := .slice ov2 ([] : List Sc).length cv2) (by rfl)
    refine bodyPost_ret (v := .tuple #[.agg #[.slice ov2 ([] : List Sc).length cv2], .bool false]) (by simp [results, Tryz.results34, go_sem] at d0 ⊢; simp [d0]) rfl (.inl ⟨HN.out, _, hs, rfl, ?_, HB2.out.setCell (by simp) _⟩)
    exact ⟨HO.out.len, ownsRow_otherN HO.out.row HR3b.out (by decide) 0 _, fun k t z h1 h2 => ownsRow_otherN (HO.out.items k t z h1 h2) HR3b.out (by decide) 0 _, HO.out.apart⟩
  · have HH := Lib.hid hh
    have hlt : (nmgG ss nm).length ≤ 1048576 := (nmgOk.fair HF.out hh).count
    have hle : ∀ s ∈ nmgG ss nm, s.items.length < 1048576 := fun s hs => by have := hh.valid.five s hs; omega
    obtain ⟨tt, htt⟩ : ∃ tt, nmgG ss nm = tt := ⟨_, rfl⟩
    rw [htt] at hho hlt hle ⊢
    have hbx := hb1.trans ((Below.refl w1.heap.size w1).alloc (Nat.le_refl _) (.cells #[.slice ov tt.length cv] 28) |>.mono hb1.size)
    have HB1 := Lib.hid (HB.out.trans (hbx.mono HB.out.size))
    have HR3a := Lib.hid (R3.out.below hbx R3.out.lt)
    have RX := (Row.new w1 [.slice ov tt.length cv] 28).cell (i := 0) (by rfl)
    have C2 := Lib.hid (ownGraph_any tt ov cv hlt hle (w1.alloc (.cells #[.slice ov tt.length cv] 28)) (hho.below ((Below.refl _ _).alloc (Nat.le_refl _) _) (Nat.le_refl _)))
    have HTT := Lib.hid htt
    clear hb1 hbx hh hho hle g1 htt hlt
    go_wp2_with fail
    refine C2.out.mono ?_
    rintro e w2 ⟨v, hs, rfl, hO, hb2⟩
    obtain ⟨ov2, cv2, rfl, -⟩ := hO.holds
    have HO := Lib.hid (hO.lower HB1.out.size)
    have HB2 := Lib.hid (HB1.out.trans (hb2.mono HB1.out.size))
    have HR3b := Lib.hid (HR3a.out.below hb2 HR3a.out.lt)
    have m0 := HR3b.out.cell (i := 0) (v := .slice none 0 0) (by rfl)
    have l0 := HR3b.out.frozen 0
    clear hO hb2 RX
    go_wp2
    have RT := HR3b.out.set 0 (.slice ov2 tt.length cv2)
    have d0 := RT.cell (i := 0) (v := .slice ov2 tt.length cv2) (by rfl)
    refine bodyPost_ret (v := .tuple #[.agg #[.slice ov2 tt.length cv2], .bool true]) (by simp [results, Tryz.results34, go_sem, d0]) rfl (.inr ⟨HH.out, _, hs, rfl, ?_, HB2.out.setCell (by simp) _⟩)
    rw [HTT.out]
    exact ⟨HO.out.len, ownsRow_otherN HO.out.row HR3b.out (by decide) 0 _, fun k t z h1 h2 => ownsRow_otherN (HO.out.items k t z h1 h2) HR3b.out (by decide) 0 _, HO.out.apart⟩
end Go.Proofs.YtgehpaojbnpbcaaGreatDoor
