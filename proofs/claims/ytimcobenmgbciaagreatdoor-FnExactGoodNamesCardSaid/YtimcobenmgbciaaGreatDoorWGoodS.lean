/-
  The walk of the given GoodNames. Condition: the argument's memory holds the graph.
-/
import Derived.Test.YtimcobenmgbciaaGreatDoorGoodP
import Derived.Test.YtimcobenmgbciaaGreatDoorJC
import Derived.IntWalk
namespace Go.Proofs.YtimcobenmgbciaaGreatDoor
open Go Go.RowKit
set_option maxRecDepth 100000 in
set_option maxHeartbeats 4000000 in
theorem specGoodNames_any (ss : List Sc) (hF : Fair ss) (oa : Option Addr) (cap : Nat) (a b : Int) (w : World) (hc : HoldsScopes w oa ss) :
    Calls Tryz.prog 6 #[.agg #[.slice oa ss.length cap], .agg #[.int .i64 a, .int .i64 b]] w (GoodGot ss a b w) := by
  have hb0 := ((Below.refl w.heap.size w).alloc (Nat.le_refl _) (.cells #[.slice oa ss.length cap] 32)).alloc (by simp) (.cells #[.int .i64 a, .int .i64 b] 34)
  have R1 := Lib.hid ((Row.new w [.slice oa ss.length cap] 32).alloc (.cells #[.int .i64 a, .int .i64 b] 34))
  have R2 := Row.new (w.alloc (.cells #[.slice oa ss.length cap] 32)) [.int .i64 a, .int .i64 b] 34
  rw [World.size_alloc] at R2
  have R2 := Lib.hid R2
  have C := Lib.hid (l6Declared_any ss hF.fits oa cap a b _ (hc.below hb0 (Nat.le_refl _)))
  have HB0 := Lib.hid hb0
  have HF := Lib.hid hF
  have HC := Lib.hid hc
  have g0 := R1.out.cell (i := 0) (v := .slice oa ss.length cap) (by rfl)
  have p0 := R2.out.cell (i := 0) (v := .int .i64 a) (by rfl)
  have p1 := R2.out.cell (i := 1) (v := .int .i64 b) (by rfl)
  clear hF hc hb0
  go_enter Tryz.func6, Tryz.ntmps6
  go_wp2_with fail
  refine C.out.mono ?_
  rintro e w1 ⟨ok, rfl, hv, hb⟩
  have HB := Lib.hid (HB0.out.trans (hb.mono HB0.out.size))
  have R1a := Lib.hid (R1.out.below hb R1.out.lt)
  have R2a := Lib.hid (R2.out.below hb R2.out.lt)
  have HV := Lib.hid hv
  clear hb hv g0 p0 p1
  cases ok
  · have HN : Hid (¬ declOk ss a b) := Lib.hid (fun h => by have := HV.out.2 h; cases this)
    go_wp2
    go_ret2
    exact ⟨_, false, rfl, .inl ⟨HN.out, rfl, rfl⟩, HB.out⟩
  · have HH := Lib.hid (HV.out.1 rfl)
    go_wp2
    go_loopw [6, 12] (fun o i wr => ∃ k : Nat, i = .int .i64 k ∧ k ≤ 26 ∧ o = .string (goodL (goodB ss a b) (List.range k)) ∧ Hid (Below w1.heap.size w1 wr)) (fun _ i _ => 26 - (intOf i).toNat)
    case atStart => exact ⟨0, rfl, by omega, rfl, Lib.hid (Below.refl _ _)⟩
    case round =>
      obtain ⟨k, rfl, hk, rfl, HW⟩ := hrel
      by_cases hlt : k < 26
      · have hcut := fun W => cutG_letter hlt W
        have hwr : IntKind.i64.wrap ((k : Int) + 1) = (k : Int) + 1 := IntWalk.i64_in _ (by omega)
        have g0 := (R1a.out.below HW.out R1a.out.lt).cell (i := 0) (v := .slice oa ss.length cap) (by rfl)
        have p0 := (R2a.out.below HW.out R2a.out.lt).cell (i := 0) (v := .int .i64 a) (by rfl)
        have p1 := (R2a.out.below HW.out R2a.out.lt).cell (i := 1) (v := .int .i64 b) (by rfl)
        have hz := goodL_size (goodB ss a b) k (List.range k) (List.length_range)
        have hsum : ¬ 9223372036854775807 < (goodL (goodB ss a b) (List.range k)).size + (letterB k).size := by rw [letterB_size]; omega
        go_wp2
        go_cut [21] (fun s wx => s = .bool (goodB ss a b k) ∧ Below wr.heap.size wr wx)
        case first =>
          refine wp_region_kept (S := fun w' => w'.cell? ⟨w.heap.size, 0, none⟩ = some (.slice oa ss.length cap) ∧ w'.cell? ⟨w.heap.size + 1, 0, none⟩ = some (.int .i64 a) ∧ w'.cell? ⟨w.heap.size + 1, 1, none⟩ = some (.int .i64 b)) 20 (by kernel_rfl) ?_
          have hS0 := And.intro (cell_drew g0) (And.intro (cell_drew p0) (cell_drew p1))
          refine KeptAny.take (i := 0) (v := ?_) (by kernel_rfl) rfl rfl (by kernel_rfl) (by kernel_rfl) (by kernel_rfl) (fun _ _ _ h => h) (by rfl) (fun w' hw' => ?_) (fun _ => rfl) hS0 ?_
          rotate_left
          · (obtain ⟨g0, g1, g2⟩ := hw'; go_simp; try with_reducible rfl)
          refine KeptAny.take (i := 1) (v := ?_) (by kernel_rfl) rfl rfl (by kernel_rfl) (by kernel_rfl) (by kernel_rfl) (fun _ _ _ h => h) (by rfl) (fun w' hw' => ?_) (fun _ => rfl) hS0 ?_
          rotate_left
          · (obtain ⟨g0, g1, g2⟩ := hw'; go_simp; try with_reducible rfl)
          refine KeptAny.take (i := 2) (v := ?_) (by kernel_rfl) rfl rfl (by kernel_rfl) (by kernel_rfl) (by kernel_rfl) (fun _ _ _ h => h) (by rfl) (fun w' hw' => ?_) (fun _ => rfl) hS0 ?_
          rotate_left
          · (obtain ⟨g0, g1, g2⟩ := hw'; go_simp; try with_reducible rfl)
          refine KeptAny.take (i := 3) (v := ?_) (by kernel_rfl) rfl rfl (by kernel_rfl) (by kernel_rfl) (by kernel_rfl) (fun _ _ _ h => h) (by rfl) (fun w' hw' => ?_) (fun _ => rfl) hS0 ?_
          rotate_left
          · (obtain ⟨g0, g1, g2⟩ := hw'; go_simp; try with_reducible rfl)
          refine KeptAny.take (i := 4) (v := ?_) (by kernel_rfl) rfl rfl (by kernel_rfl) (by kernel_rfl) (by kernel_rfl) (fun _ _ _ h => h) (by rfl) (fun w' hw' => ?_) (fun _ => rfl) hS0 ?_
          rotate_left
          · (obtain ⟨g0, g1, g2⟩ := hw'; go_simp; try with_reducible rfl)
          refine KeptAny.take (i := 5) (v := ?_) (by kernel_rfl) rfl rfl (by kernel_rfl) (by kernel_rfl) (by kernel_rfl) (fun _ _ _ h => h) (by rfl) (fun w' hw' => ?_) (fun _ => rfl) hS0 ?_
          rotate_left
          · (obtain ⟨g0, g1, g2⟩ := hw'; go_simp; try with_reducible rfl)
          have HD0 : Hid (Below wr.heap.size wr wr.drew) := Lib.hid ((Below.refl _ _).drew)
          have HS0 := Lib.hid hS0
          clear hS0 g0 p0 p1
          refine KeptAny.one (i := 6) (by kernel_rfl) rfl (by rfl) (fun K hK => ?_)
          go_simp
          refine ⟨trivial, ?_⟩
          refine ((callsIn_wide (n := 5)).2 (specCanRename_any ss HF.out oa cap a b (letterB k) _ (HC.out.below (HB.out.trans ((HW.out.trans (HD0.out.mono HW.out.size)).mono HB.out.size)) (Nat.le_refl _)))).mono ?_
          rintro e wc ⟨q, rfl, hq, hb⟩
          have HQ := Lib.hid (goodB_of hq)
          have HD1 := Lib.hid (HD0.out.trans (hb.mono HD0.out.size))
          have HS1 := Lib.hid (And.intro (cell_grow hb HS0.out.1) (And.intro (cell_grow hb HS0.out.2.1) (cell_grow hb HS0.out.2.2)))
          clear hb hq
          refine hK.out _ _ HS1.out (fun _ => ?_)
          clear hK
          refine KeptAny.done (by kernel_rfl) ?_ _
          go_wp2
          go_meet
          exact ⟨by rw [HQ.out], HD1.out⟩
        case rest =>
          obtain ⟨rfl, hbc⟩ := hcut
          have HWN := Lib.hid (HW.out.trans (hbc.mono HW.out.size))
          clear hbc g0 p0 p1
          cases hq : goodB ss a b k
          · have HE : Hid (goodL (goodB ss a b) (List.range (k + 1)) = goodL (goodB ss a b) (List.range k)) := Lib.hid (by rw [List.range_succ]; exact goodL_no hq)
            clear hq
            go_wp2
            go_roundw
            case rel => exact ⟨k + 1, by go_num, by omega, by rw [HE.out], HWN⟩
            case measure => simp only [intOf]; omega
          · have HE : Hid (goodL (goodB ss a b) (List.range (k + 1)) = goodL (goodB ss a b) (List.range k) ++ letterB k) := Lib.hid (by rw [List.range_succ]; exact goodL_yes hq)
            clear hq
            go_wp2
            go_roundw
            case rel => exact ⟨k + 1, by go_num, by omega, by rw [HE.out], HWN⟩
            case measure => simp only [intOf]; omega
      · obtain rfl : k = 26 := by omega
        go_wp2
        go_ret2
        exact ⟨_, true, rfl, .inr ⟨HH.out, rfl, rfl⟩, HB.out.trans (HW.out.mono HB.out.size)⟩
end Go.Proofs.YtimcobenmgbciaaGreatDoor
