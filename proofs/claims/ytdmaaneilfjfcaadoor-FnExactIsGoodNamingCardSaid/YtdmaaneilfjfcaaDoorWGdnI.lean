/-
  The walk of impl's IsGoodNaming. Conditions: the argument's memory holds the graph, the errors of a tree and of a naming are there. (gengdni.py writes this text.)
-/
import Derived.Test.YtdmaaneilfjfcaaDoorJH
import Derived.Test.YtdmaaneilfjfcaaDoorWArrEq
import Derived.Test.YtdmaaneilfjfcaaDoorCanV
namespace Go.Proofs.YtdmaaneilfjfcaaDoor
open Go Go.RowKit
theorem tabs_eq {ss : List Sc} (hv : Valid ss) {f : NameF} : (∀ k, k < 30 → tabF (renP ss f) k = tabF ss k) ↔ ∀ i j, tabT ss i j = tabT (renP ss f) i j := by
  constructor
  · intro h i j
    by_cases hn : itemAtP ss (i : Int) (j : Int) = none
    · have e1 : meanAt ss (i : Int) (j : Int) = [] := by unfold meanAt; rw [hn]
      have e2 : meanAt (renP ss f) (i : Int) (j : Int) = [] := Decidable.byContradiction fun hne => by
        obtain ⟨y, hy, -⟩ := mean_ofAt hne
        obtain ⟨x, hx, -⟩ := placed_unren hy
        have := placed_item hx
        dsimp only at this
        rw [hn] at this
        cases this
      unfold tabT
      rw [dcl_ren, e1, e2]
    · obtain ⟨x, hx⟩ := Option.ne_none_iff_exists'.1 hn
      obtain ⟨c, d, h1, h2, hq⟩ := item_placed hx
      obtain rfl : i = c := by omega
      obtain rfl : j = d := by omega
      obtain ⟨s, h3, h4⟩ := placed_at hq
      dsimp only at h3 h4
      have a1 := (List.getElem?_eq_some_iff.1 h3).1
      have a2 := (List.getElem?_eq_some_iff.1 h4).1
      have a3 := hv.count.2
      have a4 := hv.five s (List.mem_of_getElem? h3)
      have e1 : (i * 5 + j) / 5 = i := by omega
      have e2 : (i * 5 + j) % 5 = j := by omega
      have h5 := h (i * 5 + j) (by omega)
      unfold tabF at h5
      rw [e1, e2] at h5
      exact h5.symm
  · intro h k _
    unfold tabF
    exact (h _ _).symm
theorem tab_guard : Tryd.prog.eqGuardType Tryd.prog.depth 92 = false := by kernel_rfl
theorem eqT_dec (W0 : World) (f g : Nat → Int) : ∃ b, (∀ W, (Op.equalIn 10000 92 (.agg (tblL f).toArray) (.agg (tblL g).toArray)).run Tryd.prog W = .ok b W) ∧ (b = true ↔ ∀ k, k < 30 → f k = g k) := by
  obtain ⟨b, h1, h2⟩ := eqT_run 9997 f g W0
  refine ⟨b, fun W => ?_, h2⟩
  obtain ⟨c, h3, h4⟩ := eqT_run 9997 f g W
  have : c = b := Bool.eq_iff_iff.2 (h4.trans h2.symm)
  rw [← this]
  exact h3
theorem eqlT {ty : TypeId} {f g : Nat → Int} {b : Bool} (h : ∀ W, (Op.equalIn 10000 ty (.agg (tblL f).toArray) (.agg (tblL g).toArray)).run Tryd.prog W = .ok b W) (W : World) : (binOp .eql ty (.agg (tblL f).toArray) (.agg (tblL g).toArray)).run Tryd.prog W = .ok (.bool b) W := by
  rw [run_eql_struct, h W]
  rfl
set_option maxRecDepth 100000 in
set_option maxHeartbeats 8000000 in
theorem implGoodNaming_any (ss : List Sc) (hF : Fair ss) (oa : Option Addr) (cap : Nat) (names : ByteArray) (hns : names.size ≤ 1048576) (w : World) (hc : HoldsScopes w oa ss) (hE : NmgErrs w) :
    Calls Tryd.prog 32 #[.agg #[.slice oa ss.length cap], .string names] w fun e w' => ∃ ok, e = .returned (.bool ok) ∧ CanVal (nmgOk ss names) (chgA ss (nmgG ss names)) ok ∧ Below w.heap.size w w' := by
  have hb0 := (Below.refl w.heap.size w).alloc (Nat.le_refl _) (.cells #[.slice oa ss.length cap] 25)
  have R1 := Row.new w [.slice oa ss.length cap] 25
  have C := Lib.hid (withNames_any ss hF oa cap names hns _ (hc.below hb0 (Nat.le_refl _)) (hE.at hb0))
  have HB := Lib.hid hb0
  have HF := Lib.hid hF
  have HE := Lib.hid hE
  have g1 := R1.cell (i := 0) (v := .slice oa ss.length cap) (by rfl)
  clear hb0 hF hc hE R1
  go_enter Tryd.func32, Tryd.ntmps32
  go_wp2_with fail
  refine C.out.mono ?_
  rintro e w1 (⟨hn, ⟨tp, p, rfl⟩, hb1⟩ | ⟨hok, v, hs, rfl, hO, hb1⟩)
  · have HN := Lib.hid hn
    have hbN : Below w1.heap.size w1 ((w1.alloc (.cells #[.slice none 0 0] 25)).alloc (.cells #[.int .i64 0, .int .i64 0, .int .i64 0, .int .i64 0, .int .i64 0, .int .i64 0, .int .i64 0, .int .i64 0, .int .i64 0, .int .i64 0, .int .i64 0, .int .i64 0, .int .i64 0, .int .i64 0, .int .i64 0, .int .i64 0, .int .i64 0, .int .i64 0, .int .i64 0, .int .i64 0, .int .i64 0, .int .i64 0, .int .i64 0, .int .i64 0, .int .i64 0, .int .i64 0, .int .i64 0, .int .i64 0, .int .i64 0, .int .i64 0] 92)) := ((Below.refl _ _).alloc (Nat.le_refl _) _).alloc (by simp) _
    have RN := (Row.new w1 [.slice none 0 0] 25).alloc (.cells #[.int .i64 0, .int .i64 0, .int .i64 0, .int .i64 0, .int .i64 0, .int .i64 0, .int .i64 0, .int .i64 0, .int .i64 0, .int .i64 0, .int .i64 0, .int .i64 0, .int .i64 0, .int .i64 0, .int .i64 0, .int .i64 0, .int .i64 0, .int .i64 0, .int .i64 0, .int .i64 0, .int .i64 0, .int .i64 0, .int .i64 0, .int .i64 0, .int .i64 0, .int .i64 0, .int .i64 0, .int .i64 0, .int .i64 0, .int .i64 0] 92)
    have hz := Row.new (w1.alloc (.cells #[.slice none 0 0] 25)) [.int .i64 0, .int .i64 0, .int .i64 0, .int .i64 0, .int .i64 0, .int .i64 0, .int .i64 0, .int .i64 0, .int .i64 0, .int .i64 0, .int .i64 0, .int .i64 0, .int .i64 0, .int .i64 0, .int .i64 0, .int .i64 0, .int .i64 0, .int .i64 0, .int .i64 0, .int .i64 0, .int .i64 0, .int .i64 0, .int .i64 0, .int .i64 0, .int .i64 0, .int .i64 0, .int .i64 0, .int .i64 0, .int .i64 0, .int .i64 0] 92
    rw [World.size_alloc] at hz
    have hbS := hbN.trans (below_setRow _ (w1.heap.size + 1) ((tblL fun _ => 0).toArray) (by omega))
    have RNS : Row (((w1.alloc (.cells #[.slice none 0 0] 25)).alloc (.cells #[.int .i64 0, .int .i64 0, .int .i64 0, .int .i64 0, .int .i64 0, .int .i64 0, .int .i64 0, .int .i64 0, .int .i64 0, .int .i64 0, .int .i64 0, .int .i64 0, .int .i64 0, .int .i64 0, .int .i64 0, .int .i64 0, .int .i64 0, .int .i64 0, .int .i64 0, .int .i64 0, .int .i64 0, .int .i64 0, .int .i64 0, .int .i64 0, .int .i64 0, .int .i64 0, .int .i64 0, .int .i64 0, .int .i64 0, .int .i64 0] 92)).setRow (w1.heap.size + 1) ((tblL fun _ => 0).toArray)) w1.heap.size 25 [.slice none 0 0] := (setRow_other _ _ _ _ (by omega)).trans RN
    unfold Row at hz
    clear RN hbN g1
    go_upto_region 2 with (refine wpList_store_row rfl 92 _ _ rfl (w1.heap.size + 1) ((tblL fun _ => 0).toArray) rfl rfl 92 _ hz (tblL_info (fun _ => 0)) (by simp [tblL_length]) (tblL_one _) ?_)
    clear hz
    generalize ((w1.alloc (.cells #[.slice none 0 0] 25)).alloc (.cells #[.int .i64 0, .int .i64 0, .int .i64 0, .int .i64 0, .int .i64 0, .int .i64 0, .int .i64 0, .int .i64 0, .int .i64 0, .int .i64 0, .int .i64 0, .int .i64 0, .int .i64 0, .int .i64 0, .int .i64 0, .int .i64 0, .int .i64 0, .int .i64 0, .int .i64 0, .int .i64 0, .int .i64 0, .int .i64 0, .int .i64 0, .int .i64 0, .int .i64 0, .int .i64 0, .int .i64 0, .int .i64 0, .int .i64 0, .int .i64 0] 92)).setRow (w1.heap.size + 1) ((tblL fun _ => 0).toArray) = wS at *
    have HBS := Lib.hid (HB.out.trans ((hb1.trans (hbS.mono hb1.size)).mono HB.out.size))
    clear hb1 hbS RNS hn
    go_wp2
    go_ret
    exact ⟨false, rfl, .inl ⟨HN.out, rfl⟩, HBS.out⟩
  · have HOK := Lib.hid hok
    obtain ⟨ov, cv, rfl, -⟩ := hO.holds
    have hbN : Below w1.heap.size w1 ((w1.alloc (.cells #[.slice ov (nmgG ss names).length cv] 25)).alloc (.cells #[.int .i64 0, .int .i64 0, .int .i64 0, .int .i64 0, .int .i64 0, .int .i64 0, .int .i64 0, .int .i64 0, .int .i64 0, .int .i64 0, .int .i64 0, .int .i64 0, .int .i64 0, .int .i64 0, .int .i64 0, .int .i64 0, .int .i64 0, .int .i64 0, .int .i64 0, .int .i64 0, .int .i64 0, .int .i64 0, .int .i64 0, .int .i64 0, .int .i64 0, .int .i64 0, .int .i64 0, .int .i64 0, .int .i64 0, .int .i64 0] 92)) := ((Below.refl _ _).alloc (Nat.le_refl _) _).alloc (by simp) _
    have RN := (Row.new w1 [.slice ov (nmgG ss names).length cv] 25).alloc (.cells #[.int .i64 0, .int .i64 0, .int .i64 0, .int .i64 0, .int .i64 0, .int .i64 0, .int .i64 0, .int .i64 0, .int .i64 0, .int .i64 0, .int .i64 0, .int .i64 0, .int .i64 0, .int .i64 0, .int .i64 0, .int .i64 0, .int .i64 0, .int .i64 0, .int .i64 0, .int .i64 0, .int .i64 0, .int .i64 0, .int .i64 0, .int .i64 0, .int .i64 0, .int .i64 0, .int .i64 0, .int .i64 0, .int .i64 0, .int .i64 0] 92)
    have hz := Row.new (w1.alloc (.cells #[.slice ov (nmgG ss names).length cv] 25)) [.int .i64 0, .int .i64 0, .int .i64 0, .int .i64 0, .int .i64 0, .int .i64 0, .int .i64 0, .int .i64 0, .int .i64 0, .int .i64 0, .int .i64 0, .int .i64 0, .int .i64 0, .int .i64 0, .int .i64 0, .int .i64 0, .int .i64 0, .int .i64 0, .int .i64 0, .int .i64 0, .int .i64 0, .int .i64 0, .int .i64 0, .int .i64 0, .int .i64 0, .int .i64 0, .int .i64 0, .int .i64 0, .int .i64 0, .int .i64 0] 92
    rw [World.size_alloc] at hz
    have hbS := hbN.trans (below_setRow _ (w1.heap.size + 1) ((tblL (tabF ss)).toArray) (by omega))
    have RNS : Row (((w1.alloc (.cells #[.slice ov (nmgG ss names).length cv] 25)).alloc (.cells #[.int .i64 0, .int .i64 0, .int .i64 0, .int .i64 0, .int .i64 0, .int .i64 0, .int .i64 0, .int .i64 0, .int .i64 0, .int .i64 0, .int .i64 0, .int .i64 0, .int .i64 0, .int .i64 0, .int .i64 0, .int .i64 0, .int .i64 0, .int .i64 0, .int .i64 0, .int .i64 0, .int .i64 0, .int .i64 0, .int .i64 0, .int .i64 0, .int .i64 0, .int .i64 0, .int .i64 0, .int .i64 0, .int .i64 0, .int .i64 0] 92)).setRow (w1.heap.size + 1) ((tblL (tabF ss)).toArray)) w1.heap.size 25 [.slice ov (nmgG ss names).length cv] := (setRow_other _ _ _ _ (by omega)).trans RN
    have hOA := hO.below hbN
    have hOS : OwnGr (((w1.alloc (.cells #[.slice ov (nmgG ss names).length cv] 25)).alloc (.cells #[.int .i64 0, .int .i64 0, .int .i64 0, .int .i64 0, .int .i64 0, .int .i64 0, .int .i64 0, .int .i64 0, .int .i64 0, .int .i64 0, .int .i64 0, .int .i64 0, .int .i64 0, .int .i64 0, .int .i64 0, .int .i64 0, .int .i64 0, .int .i64 0, .int .i64 0, .int .i64 0, .int .i64 0, .int .i64 0, .int .i64 0, .int .i64 0, .int .i64 0, .int .i64 0, .int .i64 0, .int .i64 0, .int .i64 0, .int .i64 0] 92)).setRow (w1.heap.size + 1) (tblL (tabF ss)).toArray) _ (.slice ov (nmgG ss names).length cv) (nmgG ss names) hs := ⟨hOA.len, ownsRow_setRowN hOA.row hz (by decide) _, fun k t z h1 h2 => ownsRow_setRowN (hOA.items k t z h1 h2) hz (by decide) _, hOA.apart⟩
    have hzT := Lib.hid (show Row (((w1.alloc (.cells #[.slice ov (nmgG ss names).length cv] 25)).alloc (.cells #[.int .i64 0, .int .i64 0, .int .i64 0, .int .i64 0, .int .i64 0, .int .i64 0, .int .i64 0, .int .i64 0, .int .i64 0, .int .i64 0, .int .i64 0, .int .i64 0, .int .i64 0, .int .i64 0, .int .i64 0, .int .i64 0, .int .i64 0, .int .i64 0, .int .i64 0, .int .i64 0, .int .i64 0, .int .i64 0, .int .i64 0, .int .i64 0, .int .i64 0, .int .i64 0, .int .i64 0, .int .i64 0, .int .i64 0, .int .i64 0] 92)).setRow (w1.heap.size + 1) (tblL (tabF ss)).toArray) (w1.heap.size + 1) 92 (tblL (tabF ss)) from setRow_heap _ _ _ (tblL (tabF ss)).toArray _ _ hz)
    unfold Row at hz
    clear RN hbN g1
    go_upto_region 2 with (refine wpList_store_row rfl 92 _ _ rfl (w1.heap.size + 1) ((tblL (tabF ss)).toArray) rfl rfl 92 _ hz (tblL_info (fun _ => 0)) (by simp [tblL_length]) (tblL_one _) ?_)
    clear hz
    generalize ((w1.alloc (.cells #[.slice ov (nmgG ss names).length cv] 25)).alloc (.cells #[.int .i64 0, .int .i64 0, .int .i64 0, .int .i64 0, .int .i64 0, .int .i64 0, .int .i64 0, .int .i64 0, .int .i64 0, .int .i64 0, .int .i64 0, .int .i64 0, .int .i64 0, .int .i64 0, .int .i64 0, .int .i64 0, .int .i64 0, .int .i64 0, .int .i64 0, .int .i64 0, .int .i64 0, .int .i64 0, .int .i64 0, .int .i64 0, .int .i64 0, .int .i64 0, .int .i64 0, .int .i64 0, .int .i64 0, .int .i64 0] 92)).setRow (w1.heap.size + 1) ((tblL (tabF ss)).toArray) = wS at *
    have HB1 := Lib.hid ((hb1.trans (hbS.mono hb1.size)))
    have HBS := Lib.hid (HB.out.trans ((hb1.trans (hbS.mono hb1.size)).mono HB.out.size))
    have n1 := RNS.cell (i := 0) (v := .slice ov (nmgG ss names).length cv) (by rfl)
    have C2 := Lib.hid (resolutionOf_any (nmgG ss names) (nmgOk.fair HF.out hok) ov cv wS hOS.holdsS (HE.out.at HBS.out).trees)
    clear hb1 hbS RNS hok hOA hOS hO
    go_wp2_with fail
    refine C2.out.mono ?_
    rintro e w2 (⟨hv, -, -⟩ | ⟨hv, R, T, M1, M2, MR, v, ds, l, rfl, hb2, hR⟩)
    · exact absurd HOK.out.valid hv
    have hzU := Lib.hid ((hzT.out.below hb2 hzT.out.lt))
    obtain ⟨b, hb, hbq⟩ := eqT_dec w2 (tabF (nmgG ss names)) (tabF ss)
    have HBB := Lib.hid hbq
    have hq := eqlT hb
    have hgd := tab_guard
    have HRR := Lib.hid hR
    have HB2 := Lib.hid (HBS.out.trans (hb2.mono HBS.out.size))
    clear n1 hv hbq hb hb2 hR
    go_wp2
    refine wp_region_kept (S := fun w' => w'.heap[w1.heap.size + 1]? = some (.cells (tblL (tabF ss)).toArray 92 (0, 0))) 8 (by kernel_rfl) ?_
    have hS0 : w2.drew.heap[w1.heap.size + 1]? = some (.cells (tblL (tabF ss)).toArray 92 (0, 0)) := hzU.out
    refine KeptAny.take (i := 0) (v := ?_) (by kernel_rfl) rfl rfl (by kernel_rfl) (by kernel_rfl) (by kernel_rfl) (fun _ _ _ h => h) (by rfl) (fun w' hw' => ?_) (fun _ => rfl) hS0 ?_
    rotate_left
    · (go_simp; try with_reducible rfl)
    refine KeptAny.take (i := 1) (v := ?_) (by kernel_rfl) rfl rfl (by kernel_rfl) (by kernel_rfl) (by kernel_rfl) (fun _ _ _ h => h) (by rfl) (fun w' hw' => ?_) (fun _ => rfl) hS0 ?_
    rotate_left
    · (go_simp; try with_reducible rfl)
    refine KeptAny.take (i := 2) (v := ?_) (by kernel_rfl) rfl rfl (by kernel_rfl) (by kernel_rfl) (by kernel_rfl) (fun _ _ _ h => h) (by rfl) (fun w' hw' => ?_) (fun _ => rfl) hS0 ?_
    rotate_left
    · (go_simp; try with_reducible rfl)
    refine KeptAny.take (i := 3) (v := ?_) (by kernel_rfl) rfl rfl (by kernel_rfl) (by kernel_rfl) (by kernel_rfl) (fun _ _ _ h => h) (by rfl) (fun w' hw' => ?_) (fun _ => rfl) hS0 ?_
    rotate_left
    · (go_simp; try with_reducible rfl)
    refine KeptAny.take (i := 5) (v := .agg (tblL (tabF ss)).toArray) (by kernel_rfl) rfl rfl (by kernel_rfl) (by kernel_rfl) (by kernel_rfl) (fun _ _ _ h => h) (by rfl) (fun w' hw' => ?_) (fun _ => rfl) hS0 ?_
    · refine exec_load_row 92 (.tmp 6) rfl (w1.heap.size + 1) ?_ 92 _ (0, 0) _ hw' Tryd.underlying92 rfl (tblL_info _)
      rfl
    refine KeptAny.one (i := 4) (by kernel_rfl) rfl (by rfl) (fun K hK => ?_)
    go_simp
    refine ⟨trivial, ?_⟩
    refine ((callsIn_wide (n := 5)).2 (bindings_any HOK.out.valid (HRR.out.below ((Below.refl _ _).drew)))).mono ?_
    rintro e wa ⟨rfl, hb⟩
    have HD := Lib.hid ((HB2.out.drew).trans (hb.mono HB2.out.size))
    have hS1 : wa.heap[w1.heap.size + 1]? = some (.cells (tblL (tabF ss)).toArray 92 (0, 0)) := hzU.out.drew.below hb hzU.out.lt
    clear hS0 hb
    refine hK.out _ _ hS1 (fun _ => ?_)
    clear hK
    have hS0 := hS1
    refine KeptAny.take (i := 6) (v := .bool b) (by kernel_rfl) rfl rfl (by kernel_rfl) (by kernel_rfl) (by kernel_rfl) (fun _ _ _ h => h) (by rfl) (fun w' hw' => ?_) (fun _ => rfl) hS0 ?_
    · (go_simp; try with_reducible rfl)
    refine KeptAny.take (i := 7) (v := .bool b) (by kernel_rfl) rfl rfl (by kernel_rfl) (by kernel_rfl) (by kernel_rfl) (fun _ _ _ h => h) (by rfl) (fun w' hw' => ?_) (fun _ => rfl) hS0 ?_
    · (go_simp; try with_reducible rfl)
    refine KeptAny.last (by kernel_rfl) rfl (by rfl) (fun K hK => ?_)
    go_simp
    refine hK.out _ _ ?_
    clear hK
    refine KeptAny.done (by kernel_rfl) ?_ _
    go_wp2
    go_ret
    refine ⟨_, rfl, .inr ⟨HOK.out, ?_⟩, HD.out⟩
    rw [Bool.eq_iff_iff, decide_eq_true_iff]
    exact HBB.out.trans ((tabs_eq HOK.out.1.1).trans (chg_tab HOK.out.1.1 HOK.out.1.2 HOK.out.valid).symm)
end Go.Proofs.YtdmaaneilfjfcaaDoor
