/-
  The walks of IsFewest of both sides. Conditions: the argument's memory holds the graph; the package-level errors hold errors.
-/
import Derived.Test.YtgehpaojbnpbcaaGreatDoorWFewIZ
import Derived.Test.YtgehpaojbnpbcaaGreatDoorJSZ
import Derived.Test.YtgehpaojbnpbcaaGreatDoorWOwnSZ
import Derived.Test.YtgehpaojbnpbcaaGreatDoorWOwnIZ
import Derived.Test.YtgehpaojbnpbcaaGreatDoorJCZ
namespace Go.Proofs.YtgehpaojbnpbcaaGreatDoor
open Go Go.RowKit
/-- What IsFewest says. -/
noncomputable def isFewP (ss : List Sc) : Bool := (fewR ss).2 && decide (cntL (ownT ss) = cntL (fewR ss).1.data.toList)
theorem few_true {ss : List Sc} {T : ByteArray} (h : fewR ss = (T, true)) : Valid ss ∧ T.size ≤ 30 ∧ ∀ b ∈ T.data.toList, 97 ≤ b.toNat ∧ b.toNat ≤ 122 := by
  unfold fewR at h
  split at h
  · rename_i hk
    cases hu : fewUp ss 7 with
    | none => rw [hu] at h; simp [fewA] at h
    | some l =>
      rw [hu] at h
      simp only [fewA, Prod.mk.injEq, and_true] at h
      subst h
      refine ⟨hk.1.1, by rw [txtN_size, few_length hu]; have := hk.2; omega, fun b hb => ?_⟩
      rw [txtN_list] at hb
      obtain ⟨k, hkl, rfl⟩ := List.mem_map.1 hb
      have := few_lt hu k hkl
      rw [UInt8.toNat_ofNat']
      omega
  · simp at h
theorem cnt_valid {ss : List Sc} {n : Int} (hv : Valid ss) (h : cntR ss n) : n = (cntL (ownT ss) : Int) := by
  rcases h with ⟨h1, _⟩ | ⟨_, h2⟩
  · exact absurd hv h1
  · exact h2
theorem isFew_true {ss : List Sc} {T : ByteArray} (h : fewR ss = (T, true)) : isFewP ss = decide (cntL (ownT ss) = cntL T.data.toList) := by unfold isFewP; rw [h]; rfl
theorem isFew_false {ss : List Sc} {T : ByteArray} (h : fewR ss = (T, false)) : isFewP ss = false := by unfold isFewP; rw [h]; rfl
set_option maxRecDepth 100000 in
set_option maxHeartbeats 4000000 in
theorem specIsFew_any (ss : List Sc) (hF : Fair ss) (oa : Option Addr) (cap : Nat) (w : World) (hc : HoldsScopes w oa ss) :
    Calls Tryz.prog 13 #[.agg #[.slice oa ss.length cap]] w fun e w' => ∃ q : Bool, e = .returned (.bool q) ∧ q = isFewP ss ∧ Below w.heap.size w w' := by
  have hb0 := (Below.refl w.heap.size w).alloc (Nat.le_refl _) (.cells #[.slice oa ss.length cap] 28)
  have R0 := Lib.hid (Row.new w [.slice oa ss.length cap] 28)
  obtain ⟨T, ok, hT⟩ : ∃ T ok, fewR ss = (T, ok) := ⟨_, _, rfl⟩
  have C := specFewest_any ss hF oa cap _ (hc.below hb0 (Nat.le_refl _))
  rw [hT] at C
  have C := Lib.hid C
  have HT := Lib.hid hT
  have HB0 := Lib.hid hb0
  have C2 := Lib.hid (fun W (hW : Below w.heap.size w W) => specCount_any ss hF oa cap W (hc.below hW (Nat.le_refl _)))
  have g0 := R0.out.cell (i := 0) (v := .slice oa ss.length cap) (by rfl)
  clear hF hc hb0 hT
  go_enter Tryz.func13, Tryz.ntmps13
  go_wp2_with fail
  refine C.out.mono ?_
  rintro e w1 ⟨rfl, hb⟩
  have HB := Lib.hid (HB0.out.trans (hb.mono HB0.out.size))
  have R1 := Lib.hid (R0.out.below hb R0.out.lt)
  clear hb g0
  cases ok
  · have HF := Lib.hid ((isFew_false HT.out).symm)
    have g1 := R1.out.cell (i := 0) (v := .slice oa ss.length cap) (by rfl)
    go_upto_region 2 with (fail)
    go_region
    go_wp2
    go_ret
    exact ⟨_, rfl, HF.out, HB.out.drew⟩
  · obtain ⟨hv, hsz, hby⟩ := few_true HT.out
    have HV := Lib.hid hv
    have HSZ := Lib.hid hsz
    have HLS : Hid ((bT (ltrUp (txtsB [T]) 26)).size = cntL T.data.toList) := Lib.hid (by rw [bT_size]; unfold txtsB cntL; simp)
    have g1 := R1.out.cell (i := 0) (v := .slice oa ss.length cap) (by rfl)
    clear hv hsz hby
    go_upto_region 2 with (fail)
    refine wp_region_kept (S := fun w' => w'.cell? ⟨w.heap.size, 0, none⟩ = some (.slice oa ss.length cap)) 99 (by kernel_rfl) ?_
    have hS0 := cell_drew g1
    have HD := Lib.hid (HB.out.trans (((Below.refl w1.heap.size w1).drew).mono HB.out.size))
    have RD := Lib.hid (R1.out.below ((Below.refl w1.heap.size w1).drew) R1.out.lt)
    clear g1
    refine KeptAny.take (i := 0) (v := ?_) (by kernel_rfl) rfl rfl (by kernel_rfl) (by kernel_rfl) (by kernel_rfl) (fun _ _ _ h => h) (by kernel_rfl) (fun w' hw' => ?_) (fun _ => rfl) hS0 ?_
    rotate_left
    · (go_simp; try with_reducible rfl)
    refine KeptAny.take (i := 1) (v := ?_) (by kernel_rfl) rfl rfl (by kernel_rfl) (by kernel_rfl) (by kernel_rfl) (fun _ _ _ h => h) (by kernel_rfl) (fun w' hw' => ?_) (fun _ => rfl) hS0 ?_
    rotate_left
    · (go_simp; try with_reducible rfl)
    refine KeptAny.take (i := 2) (v := ?_) (by kernel_rfl) rfl rfl (by kernel_rfl) (by kernel_rfl) (by kernel_rfl) (fun _ _ _ h => h) (by kernel_rfl) (fun w' hw' => ?_) (fun _ => rfl) hS0 ?_
    rotate_left
    · (go_simp; try with_reducible rfl)
    refine KeptAny.take (i := 6) (v := ?_) (by kernel_rfl) rfl rfl (by kernel_rfl) (by kernel_rfl) (by kernel_rfl) (fun _ _ _ h => h) (by kernel_rfl) (fun w' hw' => ?_) (fun _ => rfl) hS0 ?_
    rotate_left
    · (go_simp; try with_reducible rfl)
    have C5 := Lib.hid (l1Sorted_any [T] (by have := HSZ.out; simp; omega) (by simp) w1.drew.heap.size 0 1 (w1.drew.alloc (.cells #[.string T] 9)) (fun k x hk => by
      have hk0 : k = 0 := by have := (List.getElem?_eq_some_iff.1 hk).1; simpa using this
      subst hk0
      simp at hk
      subst hk
      exact (Row.new w1.drew [.string T] 9).cell (i := 0) (by rfl)))
    have HA := Lib.hid (HD.out.trans (((Below.refl w1.drew.heap.size w1.drew).alloc (Nat.le_refl _) (.cells #[.string T] 9)).mono HD.out.size))
    have RA := Lib.hid (RD.out.alloc (.cells #[.string T] 9))
    refine KeptAny.one (i := 3) (by kernel_rfl) rfl (by kernel_rfl) (fun K hK => ?_)
    go_simp
    refine hK.out _ _ (RA.out.cell (i := 0) (v := .slice oa ss.length cap) (by rfl)) (fun _ => ?_)
    clear hK hS0
    refine KeptAny.one (i := 4) (by kernel_rfl) rfl (by kernel_rfl) (fun K hK => ?_)
    go_simp
    refine ⟨trivial, ?_⟩
    refine ((callsIn_wide (n := 5)).2 C5.out).mono ?_
    rintro e w2 ⟨rfl, hb2⟩
    have HB2 := Lib.hid (HA.out.trans (hb2.mono HA.out.size))
    have hS0 := (RA.out.below hb2 RA.out.lt).cell (i := 0) (v := .slice oa ss.length cap) (by rfl)
    obtain ⟨Z, hZ⟩ : ∃ Z, bT (ltrUp (txtsB [T]) 26) = Z := ⟨_, rfl⟩
    have HZ : Hid (Z.size = cntL T.data.toList) := Lib.hid (by rw [← hZ]; exact HLS.out)
    rw [hZ]
    clear hb2 hZ
    refine hK.out _ _ hS0 (fun _ => ?_)
    clear hK
    refine KeptAny.take (i := 5) (v := ?_) (by kernel_rfl) rfl rfl (by kernel_rfl) (by kernel_rfl) (by kernel_rfl) (fun _ _ _ h => h) (by kernel_rfl) (fun w' hw' => ?_) (fun _ => rfl) hS0 ?_
    rotate_left
    · (go_simp; try with_reducible rfl)
    refine KeptAny.one (i := 7) (by kernel_rfl) rfl (by kernel_rfl) (fun K hK => ?_)
    go_simp
    refine ⟨trivial, ?_⟩
    refine ((callsIn_wide (n := 5)).2 (C2.out _ HB2.out)).mono ?_
    rintro e w3 ⟨n, rfl, hn, hb3⟩
    obtain rfl := cnt_valid HV.out hn
    have HB3 := Lib.hid (HB2.out.trans (hb3.mono HB2.out.size))
    have hS0 := (hb3.cell (p := ⟨w.heap.size, 0, none⟩) (by have h1 := RA.out.lt; have h2 := HB2.out; have h3 := HA.out.size; exact World.block_lt_of_cell? _ _ hS0)).trans hS0
    have HQ : Hid (((Z.size : Int) == (cntL (ownT ss) : Int)) = isFewP ss) := Lib.hid (by
      rw [isFew_true HT.out, HZ.out, Bool.eq_iff_iff, beq_iff_eq, decide_eq_true_iff]
      omega)
    clear hn hb3
    refine hK.out _ _ hS0 (fun _ => ?_)
    clear hK
    refine KeptAny.take (i := 8) (v := ?_) (by kernel_rfl) rfl rfl (by kernel_rfl) (by kernel_rfl) (by kernel_rfl) (fun _ _ _ h => h) (by kernel_rfl) (fun w' hw' => ?_) (fun _ => rfl) hS0 ?_
    rotate_left
    · (go_simp; try with_reducible rfl)
    refine KeptAny.take (i := 9) (v := ?_) (by kernel_rfl) rfl rfl (by kernel_rfl) (by kernel_rfl) (by kernel_rfl) (fun _ _ _ h => h) (by kernel_rfl) (fun w' hw' => ?_) (fun _ => rfl) hS0 ?_
    rotate_left
    · (go_simp; try with_reducible rfl)
    refine KeptAny.one (i := 10) (by kernel_rfl) rfl (by kernel_rfl) (fun K hK => ?_)
    go_simp
    refine hK.out _ _ hS0 (fun _ => ?_)
    clear hK hS0
    refine KeptAny.done (by kernel_rfl) ?_ _
    go_wp2
    go_ret
    exact ⟨_, rfl, HQ.out, HB3.out⟩
set_option maxRecDepth 100000 in
set_option maxHeartbeats 4000000 in
theorem implIsFew_any (ss : List Sc) (hF : Fair ss) (oa : Option Addr) (cap : Nat) (w : World) (hc : HoldsScopes w oa ss) (hE : FewErrs w) :
    Calls Tryz.prog 14 #[.agg #[.slice oa ss.length cap]] w fun e w' => ∃ q : Bool, e = .returned (.bool q) ∧ q = isFewP ss ∧ Below w.heap.size w w' := by
  have hb0 := (Below.refl w.heap.size w).alloc (Nat.le_refl _) (.cells #[.slice oa ss.length cap] 28)
  have R0 := Lib.hid (Row.new w [.slice oa ss.length cap] 28)
  obtain ⟨T, ok, hT⟩ : ∃ T ok, fewR ss = (T, ok) := ⟨_, _, rfl⟩
  have C := implFewest_any ss hF oa cap _ (hc.below hb0 (Nat.le_refl _)) (hE.at hb0)
  rw [hT] at C
  have C := Lib.hid C
  have HT := Lib.hid hT
  have HB0 := Lib.hid hb0
  have C2 := Lib.hid (fun W (hW : Below w.heap.size w W) => implCount_any ss hF oa cap W (hc.below hW (Nat.le_refl _)) (hE.at hW).nmg.trees)
  have g0 := R0.out.cell (i := 0) (v := .slice oa ss.length cap) (by rfl)
  clear hF hc hb0 hT hE
  go_enter Tryz.func14, Tryz.ntmps14
  go_wp2_with fail
  refine C.out.mono ?_
  rintro e w1 ⟨rfl, hb⟩
  have HB := Lib.hid (HB0.out.trans (hb.mono HB0.out.size))
  have R1 := Lib.hid (R0.out.below hb R0.out.lt)
  clear hb g0
  cases ok
  · go_wp2
    go_ret
    exact ⟨_, rfl, (isFew_false HT.out).symm, HB.out⟩
  · obtain ⟨hv, hsz, hby⟩ := few_true HT.out
    have HV := Lib.hid hv
    have hTb : bT T.data.toList = T := (bT_of rfl).symm
    have C5 := fun W => countDiff_any T.data.toList hby (by rw [Array.length_toList]; exact hsz) W
    rw [hTb] at C5
    have C5 := Lib.hid C5
    have r1 := R1.out.cell (i := 0) (v := .slice oa ss.length cap) (by rfl)
    clear hv hsz hby hTb
    go_wp2_with fail
    refine (C2.out _ HB.out).mono ?_
    rintro e w3 ⟨n, rfl, hn, hb3⟩
    obtain rfl := cnt_valid HV.out hn
    have HB3 := Lib.hid (HB.out.trans (hb3.mono HB.out.size))
    clear hn hb3 r1
    go_wp2_with fail
    refine (C5.out _).mono ?_
    rintro e w4 ⟨rfl, hb4⟩
    have HB4 := Lib.hid (HB3.out.trans (hb4.mono HB3.out.size))
    have HQ : Hid (((cntL (ownT ss) : Int) == (cntL T.data.toList : Int)) = isFewP ss) := Lib.hid (by
      rw [isFew_true HT.out, Bool.eq_iff_iff, beq_iff_eq, decide_eq_true_iff]
      omega)
    clear hb4
    go_wp2
    go_ret
    exact ⟨_, rfl, HQ.out, HB4.out⟩
end Go.Proofs.YtgehpaojbnpbcaaGreatDoor
