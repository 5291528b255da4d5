/-
  The walks of impl's RenameAt, RenameChanges and CanRename. Conditions: the argument's memory holds the graph; the package-level errors hold errors.
-/
import Derived.Test.YtimcobenmgbciaaGreatDoorWRenS2
import Derived.Test.YtimcobenmgbciaaGreatDoorWUsrI2
import Derived.Test.YtimcobenmgbciaaGreatDoorWStay
import Derived.Test.YtimcobenmgbciaaGreatDoorWColl
namespace Go.Proofs.YtimcobenmgbciaaGreatDoor
open Go Go.RowKit
set_option maxRecDepth 100000 in
set_option maxHeartbeats 8000000 in
theorem implRenameAt_any (ss : List Sc) (hF : Fair ss) (oa : Option Addr) (cap : Nat) (a b : Int) (nm : ByteArray) (ha : (Lit.int .i64 a).wf = true) (hb' : (Lit.int .i64 b).wf = true) (w : World) (hc : HoldsScopes w oa ss) (hE : TreeErrs w) :
    Calls Tryz.prog 27 #[.agg #[.slice oa ss.length cap], .agg #[.int .i64 a, .int .i64 b], .string nm] w (GrGot (renOk ss a b nm) (renG ss a b nm) w) := by
  have hb0 : Below w.heap.size w (((w.alloc (.cells #[.slice oa ss.length cap] 32)).alloc (.cells #[.int .i64 a, .int .i64 b] 34)).alloc (.cells #[.slice none 0 0] 32)) := (((Below.refl _ _).alloc (Nat.le_refl _) _).alloc (by simp) _).alloc (by simp; omega) _
  have R1 := Lib.hid (((Row.new w [.slice oa ss.length cap] 32).alloc (.cells #[.int .i64 a, .int .i64 b] 34)).alloc (.cells #[.slice none 0 0] 32))
  have R2 := (Row.new (w.alloc (.cells #[.slice oa ss.length cap] 32)) [.int .i64 a, .int .i64 b] 34).alloc (.cells #[.slice none 0 0] 32)
  have R3 := Row.new ((w.alloc (.cells #[.slice oa ss.length cap] 32)).alloc (.cells #[.int .i64 a, .int .i64 b] 34)) [.slice none 0 0] 32
  rw [World.size_alloc] at R2
  rw [World.size_alloc, World.size_alloc] at R3
  have R2 := Lib.hid R2
  have R3 := Lib.hid R3
  have C := Lib.hid (implUsersOf_any ss hF oa cap a b ha hb' _ (hc.below hb0 (Nat.le_refl _)) (hE.below hb0 hE.size))
  have HB := Lib.hid hb0
  have HF := Lib.hid hF
  have HC := Lib.hid hc
  have g1 := R1.out.cell (i := 0) (v := .slice oa ss.length cap) (by rfl)
  have p0 := R2.out.cell (i := 0) (v := .int .i64 a) (by rfl)
  have p1 := R2.out.cell (i := 1) (v := .int .i64 b) (by rfl)
  have n0 := R3.out.cell (i := 0) (v := .slice none 0 0) (by rfl)
  have f0 := R3.out.frozen 0
  clear hF hc hE hb0 ha hb'
  obtain ⟨qa, hqa⟩ : ∃ q, nameB nm = q := ⟨_, rfl⟩
  have HQ := Lib.hid hqa
  have CA := Lib.hid (fun W => isName_any nm W)
  rw [hqa] at CA
  clear hqa
  go_enter Tryz.func27, Tryz.ntmps27
  go_wp2_with fail
  refine C.out.mono ?_
  rintro e w1 (⟨hn, rfl, hb1⟩ | ⟨hok, v, rfl, hown, hb1⟩)
  · have HB1 := Lib.hid (HB.out.trans (hb1.mono HB.out.size))
    have R3a := Lib.hid (R3.out.below hb1 R3.out.lt)
    have HND := Lib.hid hn
    have n0 := R3a.out.cell (i := 0) (v := .slice none 0 0) (by rfl)
    have f0 := R3a.out.frozen 0
    clear hn hb1 g1 p0 p1
    have HN : Hid (¬ renOk ss a b nm) := Lib.hid (fun h => HND.out h.1)
    go_wp2
    have RT := R3a.out.set 0 (.slice none 0 0)
    have d0 := RT.cell (i := 0) (v := .slice none 0 0) (by rfl)
    refine bodyPost_ret (v := .tuple #[.agg #[.slice none 0 0], .bool false]) (by simp [results, Tryz.results27, go_sem, d0]) rfl (.inl ⟨HN.out, _, [], rfl, OwnGr.nil _ _, HB1.out.setCell (by simp; omega) _⟩)
  · have HB1 := Lib.hid (HB.out.trans (hb1.mono HB.out.size))
    have R1a := Lib.hid (R1.out.below hb1 R1.out.lt)
    have R2a := Lib.hid (R2.out.below hb1 R2.out.lt)
    have R3a := Lib.hid (R3.out.below hb1 R3.out.lt)
    have HD := Lib.hid hok
    obtain ⟨ou, cu, rfl, hA⟩ := argPlaces_of_owns hown
    have HA := Lib.hid hA
    have n0 := R3a.out.cell (i := 0) (v := .slice none 0 0) (by rfl)
    have f0 := R3a.out.frozen 0
    have hul := usersP_length ss (a, b)
    have h30 := placed_bound 0 ss 6 5 hok.1.count.2 hok.1.five
    obtain ⟨ul, hule⟩ : ∃ ul, usersP ss (a, b) = ul := ⟨_, rfl⟩
    have HUP : Hid (∀ p ∈ ul, IsPlace ss p) := Lib.hid (by rw [← hule]; exact users_isPlace)
    rw [hule] at HA hul ⊢
    have hnl : ul.length ≤ 30 := by omega
    have HULE := Lib.hid hule
    clear hok hb1 hown hA hul h30 hule g1 p0 p1
    go_wp2_with fail
    refine (CA.out _).mono ?_
    rintro e w1 ⟨rfl, rfl⟩
    cases qa
    · have HN : Hid (¬ renOk ss a b nm) := Lib.hid (fun h => by have := HQ.out.symm.trans h.2; cases this)
      go_wp2
      have RT := R3a.out.set 0 (.slice none 0 0)
      have d0 := RT.cell (i := 0) (v := .slice none 0 0) (by rfl)
      refine bodyPost_ret (v := .tuple #[.agg #[.slice none 0 0], .bool false]) (by simp [results, Tryz.results27, go_sem, d0]) rfl (.inl ⟨HN.out, _, [], rfl, OwnGr.nil _ _, HB1.out.setCell (by simp; omega) _⟩)
    · have HOK : Hid (renOk ss a b nm) := Lib.hid ⟨HD.out, HQ.out⟩
      obtain ⟨i0, j0, s0, x0, he0, -, -⟩ := HD.out.isPlace
      cases he0
      have p0 := R2a.out.cell (i := 0) (v := .int .i64 (i0 : Int)) (by rfl)
      have p1 := R2a.out.cell (i := 1) (v := .int .i64 (j0 : Int)) (by rfl)
      go_wp2_with fail
      refine (naming_any i0 j0 nm _).mono ?_
      rintro e w2 ⟨u2, rfl, hr2, hb2⟩
      have HK2 : Hid (RenOk w2 u2 (nmIn ([((i0 : Int), (j0 : Int))] ++ ul.take 0) nm) ∧ Below w1.heap.size w1 w2) := Lib.hid ⟨hr2.same (by rw [List.take_zero, List.append_nil]; exact nmIn_one nm i0 j0), hb2⟩
      clear hr2 hb2 n0 f0 p0 p1
      go_wp2
      go_loopw [10, 32] (fun v i wr => ∃ k : Nat, i = .int .i64 k ∧ k ≤ ul.length ∧ Hid (RenOk wr v (nmIn ([((i0 : Int), (j0 : Int))] ++ ul.take k) nm) ∧ Below w1.heap.size w1 wr)) (fun _ i _ => ul.length - (intOf i).toNat)
      case atStart => exact ⟨0, rfl, Nat.zero_le _, HK2⟩
      case round =>
        obtain ⟨k, rfl, hk, hP⟩ := hrel
        by_cases hlt : k < ul.length
        · obtain ⟨d, hd⟩ : ∃ d, ul[k]? = some d := ⟨_, List.getElem?_eq_getElem hlt⟩
          obtain ⟨ci, cj, cs, cx, rfl, -, -⟩ := HUP.out d (List.mem_of_getElem? hd)
          obtain ⟨b2, f2, rfl, hb2, q2⟩ := (HA.out.below hP.out.2).at (by omega)
          obtain ⟨y0, y1⟩ := q2 k _ hd
          dsimp only at y0 y1
          have hba := (Below.refl wr.heap.size wr).alloc (Nat.le_refl _) (.cells #[.int .i64 (ci : Int), .int .i64 (cj : Int)] 34)
          have RD := Row.new wr [.int .i64 (ci : Int), .int .i64 (cj : Int)] 34
          have d0 := RD.cell (i := 0) (v := .int .i64 (ci : Int)) (by rfl)
          have d1 := RD.cell (i := 1) (v := .int .i64 (cj : Int)) (by rfl)
          have HPA := Lib.hid (And.intro (hP.out.1.below hba) (hP.out.2.trans (hba.mono hP.out.2.size)))
          have HTK : Hid (ul.take (k + 1) = ul.take k ++ [((ci : Int), (cj : Int))]) := Lib.hid (by rw [List.take_add_one, hd]; rfl)
          clear hba RD hd q2 hb2
          go_wp2_with fail
          refine (naming_any ci cj nm _).mono ?_
          rintro e w3 ⟨u3, rfl, hr3, hb3⟩
          have HP3 := Lib.hid (And.intro (HPA.out.1.below hb3) (And.intro hr3 (HPA.out.2.trans (hb3.mono HPA.out.2.size))))
          clear hr3 hb3 y0 y1
          go_wp2_with fail
          refine (then_any _ HP3.out.1 HP3.out.2.1).mono ?_
          rintro e w4 ⟨u4, rfl, hr4, hb4⟩
          have HP4 : Hid (RenOk w4 u4 (nmIn ([((i0 : Int), (j0 : Int))] ++ ul.take (k + 1)) nm) ∧ Below w1.heap.size w1 w4) := Lib.hid ⟨hr4.same (by rw [nmIn_then, HTK.out, List.append_assoc]), HP3.out.2.2.trans (hb4.mono HP3.out.2.2.size)⟩
          clear hr4 hb4
          go_wp2
          go_roundw
          case rel => exact ⟨k + 1, by go_num, by omega, HP4⟩
          case measure => simp only [intOf]; omega
        · obtain rfl : k = ul.length := by omega
          rename_i vch _ _
          have hK := hP.out.1.same (show _ = nmIn (usersP ss ((i0 : Int), (j0 : Int)) ++ [((i0 : Int), (j0 : Int))]) nm by
            rw [List.take_length, HULE.out]
            exact nmIn_same nm (fun p => by simp only [List.mem_append, List.mem_singleton]; exact Or.comm))
          have HB2 := Lib.hid (HB1.out.trans (hP.out.2.mono HB1.out.size))
          have R1b := Lib.hid (R1a.out.below hP.out.2 R1a.out.lt)
          have R3b := Lib.hid (R3a.out.below hP.out.2 R3a.out.lt)
          have g2 := R1b.out.cell (i := 0) (v := .slice oa ss.length cap) (by rfl)
          have E6 := Lib.hid (edit_ren (us := ss) hK (by have := HOK.out.1.1.count.2; omega) (fun s hs => by have := HOK.out.1.1.five s hs; omega))
          have W6 := Lib.hid (with_one ss _ HF.out HOK.out.1.1.count.1 oa cap _ wr (HC.out.below HB2.out (Nat.le_refl _)) E6.out)
          rw [show renP ss (nmIn (usersP ss ((i0 : Int), (j0 : Int)) ++ [((i0 : Int), (j0 : Int))]) nm) = renG ss (i0 : Int) (j0 : Int) nm from rfl] at W6
          clear hK
          go_wp2_with fail
          refine W6.out.mono ?_
          rintro e w7 ⟨v7, hs, rfl, hO, hb7⟩
          obtain ⟨ov, cv, rfl, -⟩ := hO.holds
          have HB7 := Lib.hid (HB2.out.trans (hb7.mono HB2.out.size))
          have R3c := Lib.hid (R3b.out.below hb7 R3b.out.lt)
          have HO := Lib.hid (hO.lower HB2.out.size)
          have m0 := R3c.out.cell (i := 0) (v := .slice none 0 0) (by rfl)
          have l0 := R3c.out.frozen 0
          clear hO hb7 g2
          go_wp2
          have RT := R3c.out.set 0 (.slice ov (renG ss (i0 : Int) (j0 : Int) nm).length cv)
          have d0 := RT.cell (i := 0) (v := .slice ov (renG ss (i0 : Int) (j0 : Int) nm).length cv) (by rfl)
          refine bodyPost_ret (v := .tuple #[.agg #[.slice ov (renG ss (i0 : Int) (j0 : Int) nm).length cv], .bool true]) (by simp [results, Tryz.results27, go_sem, d0]) rfl (.inr ⟨HOK.out, _, hs, rfl, ?_, HB7.out.setCell (by simp; omega) _⟩)
          exact ⟨HO.out.len, ownsRow_otherN HO.out.row R3c.out (by decide) 0 _, fun k t z h1 h2 => ownsRow_otherN (HO.out.items k t z h1 h2) R3c.out (by decide) 0 _, HO.out.apart⟩
theorem stands_in_ren {ss : List Sc} {a b : Int} {nm : ByteArray} : StandsIn ss (renG ss a b nm) some := by
  rintro ⟨i, j, x⟩ hq p hp
  obtain rfl := Option.some.inj hp
  exact ⟨i, j, _, rfl, placed_ren hq⟩
set_option maxRecDepth 100000 in
set_option maxHeartbeats 4000000 in
theorem implRenameChanges_any (ss : List Sc) (hF : Fair ss) (oa : Option Addr) (cap : Nat) (a b : Int) (nm : ByteArray) (ha : (Lit.int .i64 a).wf = true) (hb' : (Lit.int .i64 b).wf = true) (w : World) (hc : HoldsScopes w oa ss) (hE : TreeErrs w) :
    Calls Tryz.prog 12 #[.agg #[.slice oa ss.length cap], .agg #[.int .i64 a, .int .i64 b], .string nm] w (PlGot (renOk ss a b nm) (chgA ss (renG ss a b nm)) w) := by
  have hb0 : Below w.heap.size w ((w.alloc (.cells #[.slice oa ss.length cap] 32)).alloc (.cells #[.int .i64 a, .int .i64 b] 34)) := ((Below.refl _ _).alloc (Nat.le_refl _) _).alloc (by simp) _
  have R1 := Lib.hid ((Row.new w [.slice oa ss.length cap] 32).alloc (.cells #[.int .i64 a, .int .i64 b] 34))
  have R2 := Row.new (w.alloc (.cells #[.slice oa ss.length cap] 32)) [.int .i64 a, .int .i64 b] 34
  rw [World.size_alloc] at R2
  have R2 := Lib.hid R2
  have C := Lib.hid (implRenameAt_any ss hF oa cap a b nm ha hb' _ (hc.below hb0 (Nat.le_refl _)) (hE.below hb0 hE.size))
  have HB := Lib.hid hb0
  have HF := Lib.hid hF
  have HC := Lib.hid hc
  have HE := Lib.hid hE
  have g1 := R1.out.cell (i := 0) (v := .slice oa ss.length cap) (by rfl)
  have p0 := R2.out.cell (i := 0) (v := .int .i64 a) (by rfl)
  have p1 := R2.out.cell (i := 1) (v := .int .i64 b) (by rfl)
  clear hF hc hE hb0 ha hb'
  go_enter Tryz.func12, Tryz.ntmps12
  go_wp2_with fail
  refine C.out.mono ?_
  rintro e w1 (⟨hn, v, hs, rfl, hO, hb1⟩ | ⟨hok, v, hs, rfl, hO, hb1⟩)
  · obtain ⟨ov, cv, rfl, -⟩ := hO.holds
    have hbx := hb1.trans (((Below.refl w1.heap.size w1).alloc (Nat.le_refl _) (.cells #[.slice ov ([] : List Sc).length cv] 32)).mono hb1.size)
    have HN := Lib.hid (And.intro hn (HB.out.trans (hbx.mono HB.out.size)))
    clear hn hO hb1 hbx
    go_wp2
    go_ret2
    exact .inl ⟨HN.out.1, rfl, HN.out.2⟩
  · have HOK := Lib.hid hok
    have HTF := Lib.hid (And.intro hok.valid (hok.fair HF.out))
    have HST := Lib.hid (stands_in_ren (ss := ss) (a := a) (b := b) (nm := nm))
    obtain ⟨tt, htt⟩ : ∃ tt, renG ss a b nm = tt := ⟨_, rfl⟩
    rw [htt] at hO HST HTF ⊢
    obtain ⟨ov, cv, rfl, -⟩ := hO.holds
    have hbN := (Below.refl w1.heap.size w1).alloc (Nat.le_refl _) (.cells #[.slice ov tt.length cv] 32)
    have hbx := hb1.trans (hbN.mono hb1.size)
    have HB1 := Lib.hid (HB.out.trans (hbx.mono HB.out.size))
    have R1a := Lib.hid (R1.out.below hbx R1.out.lt)
    have RX := (Row.new w1 [.slice ov tt.length cv] 32).cell (i := 0) (by rfl)
    have g1 := R1a.out.cell (i := 0) (v := .slice oa ss.length cap) (by rfl)
    have HTT := Lib.hid htt
    have C2 := Lib.hid (between_any ss tt HOK.out.1.1 HTF.out.1 HF.out HTF.out.2 oa ov cap cv (.func (.func 29) #[] #[]) some HST.out _ (HC.out.below HB1.out (Nat.le_refl _)) (hO.below hbN).holdsS (HE.out.below HB1.out HE.out.size) (stands_stay _))
    rw [chgG_add] at C2
    clear hok hO hb1 hbx hbN htt p0 p1
    go_wp2_with fail
    refine C2.out.mono ?_
    rintro e w2 ⟨v2, rfl, hown, hb2⟩
    have HO := Lib.hid (And.intro (ownsRow_lower hown HB1.out.size) (HB1.out.trans (hb2.mono HB1.out.size)))
    clear hown hb2
    go_wp2
    go_ret2
    exact .inr ⟨HOK.out, v2, rfl, by rw [HTT.out]; exact HO.out.1, HO.out.2⟩
set_option maxRecDepth 100000 in
set_option maxHeartbeats 4000000 in
theorem implCanRename_any (ss : List Sc) (hF : Fair ss) (oa : Option Addr) (cap : Nat) (a b : Int) (nm : ByteArray) (ha : (Lit.int .i64 a).wf = true) (hb' : (Lit.int .i64 b).wf = true) (w : World) (hc : HoldsScopes w oa ss) (hE : TreeErrs w) :
    Calls Tryz.prog 23 #[.agg #[.slice oa ss.length cap], .agg #[.int .i64 a, .int .i64 b], .string nm] w fun e w' => ∃ ok, e = .returned (.bool ok) ∧ CanVal (renOk ss a b nm) (chgA ss (renG ss a b nm)) ok ∧ Below w.heap.size w w' := by
  have hb0 : Below w.heap.size w ((w.alloc (.cells #[.slice oa ss.length cap] 32)).alloc (.cells #[.int .i64 a, .int .i64 b] 34)) := ((Below.refl _ _).alloc (Nat.le_refl _) _).alloc (by simp) _
  have R1 := Lib.hid ((Row.new w [.slice oa ss.length cap] 32).alloc (.cells #[.int .i64 a, .int .i64 b] 34))
  have R2 := Row.new (w.alloc (.cells #[.slice oa ss.length cap] 32)) [.int .i64 a, .int .i64 b] 34
  rw [World.size_alloc] at R2
  have R2 := Lib.hid R2
  have C := Lib.hid (implRenameChanges_any ss hF oa cap a b nm ha hb' _ (hc.below hb0 (Nat.le_refl _)) (hE.below hb0 hE.size))
  have HB := Lib.hid hb0
  have g1 := R1.out.cell (i := 0) (v := .slice oa ss.length cap) (by rfl)
  have p0 := R2.out.cell (i := 0) (v := .int .i64 a) (by rfl)
  have p1 := R2.out.cell (i := 1) (v := .int .i64 b) (by rfl)
  clear hF hc hE hb0 ha hb'
  go_enter Tryz.func23, Tryz.ntmps23
  go_wp2_with fail
  refine C.out.mono ?_
  rintro e w1 (⟨hn, rfl, hb⟩ | ⟨hok, v, rfl, hown, hb⟩)
  · have HN := Lib.hid (And.intro hn (HB.out.trans (hb.mono HB.out.size)))
    clear hn hb
    go_wp2
    go_ret
    exact ⟨false, rfl, .inl ⟨HN.out.1, rfl⟩, HN.out.2⟩
  · obtain ⟨ov, cv, rfl⟩ := ownsRow_slice hown
    obtain ⟨q, hq⟩ : ∃ q, ((((chgA ss (renG ss a b nm)).length : Nat) : Int) == 0) = q := ⟨_, rfl⟩
    have HN := Lib.hid (And.intro hok (And.intro (hq.symm.trans (len_zero _)) (HB.out.trans (hb.mono HB.out.size))))
    clear hok hown hb
    cases q
    all_goals go_wp2
    all_goals go_ret
    all_goals exact ⟨_, rfl, .inr ⟨HN.out.1, HN.out.2.1⟩, HN.out.2.2⟩
end Go.Proofs.YtimcobenmgbciaaGreatDoor
