/-
  The walk of impl's GreedyNames. Conditions: the graph lies in memory and is fair; the errors lie where they were laid. (gengrdi.py writes this text.)
-/
import Derived.Test.YtifjljkbfabifaaDoorJSZ
import Derived.Test.YtifjljkbfabifaaDoorWFewIZ
namespace Go.Proofs.YtifjljkbfabifaaDoor
open Go Go.RowKit Go.Maps
attribute [local go_sem] Oper.semAt_some
theorem spreadL_own {c : Nat} (hc : c ≤ 7) : spreadL c 7 = List.range c := by
  refine List.ext_getElem? fun i => ?_
  by_cases hi : i < c
  · rw [spreadL_get hi, List.getElem?_range hi, show min i (7 - 1) = i by omega]
  · rw [List.getElem?_eq_none (by rw [spreadL_length]; omega), List.getElem?_eq_none (by simp; omega)]
theorem range_bytes : ∀ (k j : Nat), j < k → (txtN (List.range k)).data.toList[j]? = some (UInt8.ofNat (97 + j)) := by
  intro k j h
  rw [txtN_list, List.getElem?_map, List.getElem?_range h]
  rfl
set_option maxRecDepth 100000 in
set_option maxHeartbeats 8000000 in
theorem implGreedy_any (ss : List Sc) (hF : Fair ss) (oa : Option Addr) (cap : Nat) (w : World) (hc : HoldsScopes w oa ss) (hE : FewErrs w) :
    Calls Tryd.prog 21 #[.agg #[.slice oa ss.length cap]] w fun e w' => e = .returned (.tuple #[.string (grdR ss).1, .bool (grdR ss).2]) ∧ Below w.heap.size w w' := by
  have hb0 := (Below.refl w.heap.size w).alloc (Nat.le_refl _) (.cells #[.slice oa ss.length cap] 30)
  have C := Lib.hid (nameableUpTo_any ss hF oa cap 7 _ (hc.below hb0 (Nat.le_refl _)) (hE.at hb0))
  have HB := Lib.hid hb0
  have HF := Lib.hid hF
  have HE := Lib.hid hE
  clear hb0 hF hc hE
  go_enter Tryd.func21, Tryd.ntmps21
  have HLP := Lib.hid (fun n (h : n ≤ 26) => letters_pre (n := n) h)
  have hsz : (⟨#[97, 98, 99, 100, 101, 102, 103, 104, 105, 106, 107, 108, 109, 110, 111, 112, 113, 114, 115, 116, 117, 118, 119, 120, 121, 122]⟩ : ByteArray).size = 26 := by decide +kernel
  have HSZ := Lib.hid hsz
  clear hsz
  generalize (⟨#[97, 98, 99, 100, 101, 102, 103, 104, 105, 106, 107, 108, 109, 110, 111, 112, 113, 114, 115, 116, 117, 118, 119, 120, 121, 122]⟩ : ByteArray) = LT at *
  go_wp2_with fail
  refine C.out.mono ?_
  rintro e w1 (⟨hn, ⟨tp, p, rfl⟩, hb1⟩ | ⟨hle, N, od, cd, rfl, hN, hb1⟩)
  · have HR : Hid (grdR ss = (⟨#[]⟩, false)) := Lib.hid (by unfold grdR FewOk; rw [if_neg hn])
    have HB1 := Lib.hid (HB.out.trans (hb1.mono HB.out.size))
    clear hb1 hn
    go_wp2
    go_ret2
    exact ⟨by rw [HR.out]; rfl, HB1.out⟩
  · have HB1 := Lib.hid (HB.out.trans (hb1.mono HB.out.size))
    have HLE := Lib.hid hle
    have HN := Lib.hid hN
    have HOK : Hid (FewOk ss) := Lib.hid ⟨hN.ok, hle⟩
    have hS0 := cell_drew (hN.box.cell nbL_dcl)
    have HS00 := Lib.hid hS0
    have HD0 := Lib.hid ((Below.refl w1.heap.size w1).drew)
    clear hb1 hle hN
    go_wp2
    refine wp_region_kept (S := fun w' => w'.cell? ⟨N, 31, none⟩ = some (.slice od (dclP ss).length cd)) 8 (by kernel_rfl) ?_
    generalize w1.drew = v0 at *
    refine KeptAny.tk (v := ?_) 0 hS0 (fun w' hw' => ?_) ?_
    rotate_left
    · (have g0 := hw'; go_simp; try with_reducible rfl)
    refine KeptAny.tk (v := ?_) 2 hS0 (fun w' hw' => ?_) ?_
    rotate_left
    · (have g0 := hw'; go_simp; try with_reducible rfl)
    refine KeptAny.tk (v := ?_) 3 hS0 (fun w' hw' => ?_) ?_
    rotate_left
    · (have g0 := hw'; go_simp; try with_reducible rfl)
    refine KeptAny.tk (v := ?_) 4 hS0 (fun w' hw' => ?_) ?_
    rotate_left
    · (have g0 := hw'; go_simp; try with_reducible rfl)
    refine KeptAny.tk (v := ?_) 5 hS0 (fun w' hw' => ?_) ?_
    rotate_left
    · (have g0 := hw'; go_simp; try with_reducible rfl)
    refine KeptAny.tk (v := ?_) 6 hS0 (fun w' hw' => ?_) ?_
    rotate_left
    · (have g0 := hw'; go_simp; try with_reducible rfl)
    clear hS0
    refine KeptAny.one (i := 1) (by kernel_rfl) rfl (by kernel_rfl) (fun KF hKF => ?_)
    go_simp
    refine ⟨trivial, ?_⟩
    refine ((callsIn_wide (n := 5)).2 (conflicts_any ss HF.out oa od cap cd N (by have := HLE.out; omega) v0 (HN.out.below HD0.out) (HE.out.at (HB1.out.trans (HD0.out.mono HB1.out.size))).nmg)).mono ?_
    rintro e v1 ⟨M, nM, rfl, hcf, hb⟩
    have HCF := Lib.hid hcf
    have HX1 := Lib.hid (HD0.out.trans (hb.mono HD0.out.size))
    have hS0 := cell_grow hb HS00.out
    refine hKF.out _ _ hS0 (fun _ => ?_)
    clear hKF hcf hb
    refine KeptAny.one (i := 7) (by kernel_rfl) rfl (by kernel_rfl) (fun KF hKF => ?_)
    go_simp
    refine hKF.out _ _ hS0 (fun _ => ?_)
    clear hKF
    refine KeptAny.last (by kernel_rfl) rfl (by kernel_rfl) (fun KF hKF => ?_)
    go_simp
    refine hKF.out _ _ ?_
    clear hKF hS0
    refine KeptAny.done (by kernel_rfl) ?_ _
    have HNV := Lib.hid (HN.out.below HX1.out)
    have HBV := Lib.hid (HB1.out.trans (HX1.out.mono HB1.out.size))
    have CS := Lib.hid (spread_any (dclP ss).length 7 HLE.out (by omega) (by omega) v1)
    go_wp2_with fail
    refine CS.out.mono ?_
    rintro e v2 ⟨rfl, hb2⟩
    rw [spreadL_own HLE.out]
    have HP2 : Hid (Row (v2.alloc (.cells #[.int .u8 0, .int .u8 0, .int .u8 0, .int .u8 0, .int .u8 0, .int .u8 0, .int .u8 0] 76)) v2.heap.size 76 [.int .u8 0, .int .u8 0, .int .u8 0, .int .u8 0, .int .u8 0, .int .u8 0, .int .u8 0]) := Lib.hid (Row.new v2 _ _)
    have hp2 := HP2.out
    unfold Row at hp2
    have HBX := Lib.hid (((hb2.trans (((Below.refl v2.heap.size v2).alloc (Nat.le_refl _) (.cells #[.int .u8 0, .int .u8 0, .int .u8 0, .int .u8 0, .int .u8 0, .int .u8 0, .int .u8 0] 76)).mono hb2.size)).trans ((below_setRow (v2.alloc (.cells #[.int .u8 0, .int .u8 0, .int .u8 0, .int .u8 0, .int .u8 0, .int .u8 0, .int .u8 0] 76)) v2.heap.size (ptL (List.range (dclP ss).length)).toArray (Nat.le_refl _)).mono hb2.size)))
    have HRX : Hid (Row ((v2.alloc (.cells #[.int .u8 0, .int .u8 0, .int .u8 0, .int .u8 0, .int .u8 0, .int .u8 0, .int .u8 0] 76)).setRow v2.heap.size (ptL (List.range (dclP ss).length)).toArray) v2.heap.size 76 (ptL (List.range (dclP ss).length))) := Lib.hid (setRow_heap _ _ _ _ _ _ hp2)
    have hv12 := hb2.size
    clear hb2 CS
    go_wp2_with (refine wpList_store_row rfl 76 _ _ rfl v2.heap.size (ptL (List.range (dclP ss).length)).toArray rfl rfl 76 _ hp2 (ptL_info _) (by simp [ptL_length]) (ptL_one _) ?_)
    clear hp2
    generalize ((v2.alloc (.cells #[.int .u8 0, .int .u8 0, .int .u8 0, .int .u8 0, .int .u8 0, .int .u8 0, .int .u8 0] 76)).setRow v2.heap.size (ptL (List.range (dclP ss).length)).toArray) = v3 at *
    generalize v2.heap.size = B8 at *
    clear HP2
    have hB81 : v1.heap.size ≤ B8 := hv12
    go_loopw [29] (fun i wr => ∃ k : Nat, i = .int .i64 k ∧ k ≤ (dclP ss).length ∧ Hid (Row wr B8 76 (ptL (grUp ss k)) ∧ Below v1.heap.size v1 wr)) (fun i _ => (dclP ss).length - (intOf i).toNat)
    case atStart => exact ⟨0, rfl, Nat.zero_le _, Lib.hid ⟨HRX.out, HBX.out⟩⟩
    case round =>
      obtain ⟨k, rfl, hk, HP⟩ := hrel
      have h7 := HLE.out
      by_cases hlt : k < (dclP ss).length
      · generalize wr = V at *
        obtain ⟨L, hL⟩ : ∃ L, L = grUp ss k := ⟨_, rfl⟩
        have HNX : Hid (grUp ss (k + 1) = grAt ss k L) := Lib.hid (by rw [hL]; rfl)
        have HLL : Hid (L.length = (dclP ss).length) := Lib.hid (by rw [hL]; exact grUp_length ss k)
        have HLK : Hid (∀ x ∈ L, x < 7) := Lib.hid (fun x hx => by rw [hL] at hx; have := grUp_lt ss k (by omega) x hx; omega)
        rw [← hL] at HP
        clear hL
        have hB8V : B8 < V.heap.size := HP.out.1.lt
        obtain ⟨cp, WA, hcv, hbt, hbA⟩ := bytes_made V (LT.extract 0 (k + 1))
        have hxs : (LT.extract 0 (k + 1)).size = k + 1 := by rw [HLP.out _ (by omega), txtN_size, List.length_range]
        rw [HLP.out _ (show k + 1 ≤ 26 by omega)] at hbt
        have HBT : Hid (∀ j, j < k + 1 → WA.cell? ⟨V.heap.size, j, none⟩ = some (.int .u8 (97 + (j : Int)))) := Lib.hid (fun j hj => by
          have h1 := (hbt j _ (range_bytes (k + 1) j hj)).1
          have e : (UInt8.ofNat (97 + j)).toNat = 97 + j := UInt8.toNat_ofNat_of_lt (by show 97 + j < 256; omega)
          rw [e] at h1
          rw [h1, show ((97 + j : Nat) : Int) = 97 + (j : Int) by omega])
        have HPA : Hid (Row WA B8 76 (ptL (grIn L k 0)) ∧ NoG ss k L 0 ∧ Below v1.heap.size v1 WA) := Lib.hid ⟨HP.out.1.below hbA HP.out.1.lt, NoG.zero ss k L, HP.out.2.trans (hbA.mono HP.out.2.size)⟩
        have k0 : (0 : Int) ≤ (k : Int) + 1 := by omega
        have k2 : (k : Int) + 1 ≤ ((LT.size : Nat) : Int) := by have := HSZ.out; omega
        have k3 : IntKind.i64.wrap ((k : Int) + 1) = (k : Int) + 1 := by rw [wrap_small _ (by omega) (by omega)]
        have k4 : ((k : Int) + 1).toNat = k + 1 := by omega
        have kk0 : (0 : Int) ≤ (k : Int) := by omega
        have kk7 : (k : Int) < 7 := by omega
        clear hbt hbA
        generalize V.heap.size = Bb at *
        go_wp2
        go_loopw [37] (fun i wr => ∃ j : Nat, i = .int .i64 j ∧ j ≤ k + 1 ∧ Hid (Row wr B8 76 (ptL (grIn L k j)) ∧ NoG ss k L j ∧ Below v1.heap.size v1 wr) ∧ Hid (∀ j, j < k + 1 → wr.cell? ⟨Bb, j, none⟩ = some (.int .u8 (97 + (j : Int))))) (fun i _ => k + 1 - (intOf i).toNat)
        case atStart => exact ⟨0, rfl, Nat.zero_le _, HPA, HBT⟩
        case round =>
          obtain ⟨j, rfl, hj, HQ, HBQ⟩ := hrel
          by_cases hjl : j < k + 1
          · have c1 : (j : Int) < (k : Int) + 1 := by omega
            have c2 : (j : Int) ≤ (k : Int) := by omega
            have cj := HBQ.out j hjl
            obtain ⟨ov, hov⟩ : ∃ ov, (ptL (grIn L k j))[k]? = some ov := ⟨_, List.getElem?_eq_getElem (by rw [ptL_length]; omega)⟩
            have co := HQ.out.1.cell hov
            have cf := HQ.out.1.frozen k
            have hset : (ptL (grIn L k j)).set k (.int .u8 (97 + (j : Int))) = ptL (L.set k j) := by
              rw [ptL_put (by rw [grIn_length, HLL.out]; exact hlt) (by rw [grIn_length, HLL.out]; exact h7), grIn_set]
            have HRS : Hid (Row (wr.setCell ⟨B8, k, none⟩ (.int .u8 (97 + (j : Int)))) B8 76 (ptL (L.set k j))) := Lib.hid (by rw [← hset]; exact HQ.out.1.set k _)
            have HBS : Hid (Below v1.heap.size v1 (wr.setCell ⟨B8, k, none⟩ (.int .u8 (97 + (j : Int))))) := Lib.hid (HQ.out.2.2.setCell (p := ⟨B8, k, none⟩) hB81 _)
            have HBBS : Hid (∀ j', j' < k + 1 → (wr.setCell ⟨B8, k, none⟩ (.int .u8 (97 + (j : Int)))).cell? ⟨Bb, j', none⟩ = some (.int .u8 (97 + (j' : Int)))) := Lib.hid (fun j' h => (World.cell?_setCell_other _ _ _ _ (fun e => by injection e with e1 _ _; omega)).trans (HBQ.out j' h))
            clear hov hset
            go_wp2
            generalize (wr.setCell ⟨B8, k, none⟩ (.int .u8 (97 + (j : Int)))) = V2 at *
            refine wp_region_kept (S := fun w' => w'.cell? ⟨N, 31, none⟩ = some (.slice od (dclP ss).length cd) ∧ Row w' B8 76 (ptL (L.set k j))) 99 (by kernel_rfl) ?_
            have HD2 := Lib.hid ((Below.refl V2.heap.size V2).drew)
            have hS0 : V2.drew.cell? ⟨N, 31, none⟩ = some (.slice od (dclP ss).length cd) ∧ Row V2.drew B8 76 (ptL (L.set k j)) := ⟨cell_drew ((HNV.out.below HBS.out).box.cell nbL_dcl), HRS.out⟩
            have HS2 := Lib.hid hS0
            have CA : Hid (∀ W', Below V2.heap.size V2 W' → Calls Tryd.prog 59 #[.map (some M), .slice od (dclP ss).length cd, .agg (ptL (L.set k j)).toArray] W' fun e w' => e = .returned (.bool (decide (goodN ss (L.set k j)))) ∧ Below W'.heap.size W' w') := Lib.hid fun W' h => by
              have hx := HBS.out.trans (h.mono HBS.out.size)
              exact allows_any ss HOK.out.1 od cd M nM HNV.out.room (L.set k j) (by rw [List.length_set]; exact HLL.out) h7 (fun x hx => by
                rcases List.mem_or_eq_of_mem_set hx with h2 | h2
                · exact HLK.out x h2
                · omega) W' (HNV.out.dcls.below hx) (HCF.out.below hx)
            generalize V2.drew = v4 at *
            refine KeptAny.tk (v := ?_) 0 hS0 (fun w' hw' => ?_) ?_
            rotate_left
            · (obtain ⟨g0, g1⟩ := hw'; go_simp; try with_reducible rfl)
            refine KeptAny.tk (v := ?_) 1 hS0 (fun w' hw' => ?_) ?_
            rotate_left
            · (obtain ⟨g0, g1⟩ := hw'; go_simp; try with_reducible rfl)
            refine KeptAny.tk (v := ?_) 2 hS0 (fun w' hw' => ?_) ?_
            rotate_left
            · (obtain ⟨g0, g1⟩ := hw'; go_simp; try with_reducible rfl)
            refine KeptAny.tk (v := ?_) 3 hS0 (fun w' hw' => ?_) ?_
            rotate_left
            · (obtain ⟨g0, g1⟩ := hw'; go_simp; try with_reducible rfl)
            refine KeptAny.tk (v := ?_) 4 hS0 (fun w' hw' => ?_) ?_
            rotate_left
            · (obtain ⟨g0, g1⟩ := hw'; go_simp; try with_reducible rfl)
            refine KeptAny.tk (v := .agg (ptL (L.set k j)).toArray) 5 hS0 (fun w' hw' => ?_) ?_
            · exact exec_load_row5 76 (.tmp 8) rfl B8 rfl 76 _ (0, 0) _ hw'.2 Tryd.underlying76 rfl (ptL_info _)
            clear hS0
            refine KeptAny.one (i := 6) (by kernel_rfl) rfl (by kernel_rfl) (fun KF hKF => ?_)
            go_simp
            refine ⟨trivial, ?_⟩
            refine ((callsIn_wide (n := 5)).2 (CA.out v4 HD2.out)).mono ?_
            rintro e v5 ⟨rfl, hb5⟩
            have HV5 := Lib.hid (HD2.out.trans (hb5.mono HD2.out.size))
            have HR5 := Lib.hid (HS2.out.2.below hb5 HS2.out.2.lt)
            refine hKF.out _ _ ⟨cell_grow hb5 HS2.out.1, HR5.out⟩ (fun _ => ?_)
            clear hKF hb5
            obtain ⟨q, hq⟩ : ∃ q, decide (goodN ss (L.set k j)) = q := ⟨_, rfl⟩
            rw [hq]
            have HQG := Lib.hid hq
            clear hq
            refine KeptAny.done (by kernel_rfl) ?_ _
            have HBF := Lib.hid (HBS.out.trans (HV5.out.mono HBS.out.size))
            have HBB5 : Hid (∀ j', j' < k + 1 → v5.cell? ⟨Bb, j', none⟩ = some (.int .u8 (97 + (j' : Int)))) := Lib.hid (fun j' h => (HV5.out.cell (World.block_lt_of_cell? _ _ (HBBS.out j' h))).trans (HBBS.out j' h))
            cases q
            · have HQ2 : Hid (Row v5 B8 76 (ptL (grIn L k (j + 1))) ∧ NoG ss k L (j + 1) ∧ Below v1.heap.size v1 v5) := Lib.hid ⟨HR5.out, HQ.out.2.1.step (of_decide_eq_false HQG.out), HBF.out⟩
              go_wp2
              go_roundw
              case rel => exact ⟨j + 1, by go_num, by omega, HQ2, HBB5⟩
              case measure => simp only [intOf]; omega
            · have HP2 : Hid (Row v5 B8 76 (ptL (grUp ss (k + 1))) ∧ Below v1.heap.size v1 v5) := Lib.hid ⟨by rw [HNX.out, grAt_first (by omega) HQ.out.2.1 (of_decide_eq_true HQG.out)]; exact HR5.out, HBF.out⟩
              go_wp2
              go_roundw
              case rel => exact ⟨k + 1, by go_num, by omega, HP2⟩
              case measure => simp only [intOf]; omega
          · obtain rfl : j = k + 1 := by omega
            have HP2 : Hid (Row wr B8 76 (ptL (grUp ss (k + 1))) ∧ Below v1.heap.size v1 wr) := Lib.hid ⟨by rw [HNX.out, grAt_none HQ.out.2.1]; exact HQ.out.1, HQ.out.2.2⟩
            go_wp2
            go_roundw
            case rel => exact ⟨k + 1, by go_num, by omega, HP2⟩
            case measure => simp only [intOf]; omega
      · obtain rfl : k = (dclP ss).length := by omega
        have hBT : BytesAt wr B8 (txtN (grUp ss (dclP ss).length)).data.toList := fun j z hj => by
          rw [txtN_list, List.getElem?_map] at hj
          obtain ⟨y, hy, rfl⟩ := Option.map_eq_some_iff.1 hj
          have hj7 : j < 7 := by have h1 := (List.getElem?_eq_some_iff.1 hy).1; rw [grUp_length] at h1; omega
          have hy7 := grUp_lt ss _ (Nat.le_refl _) y (List.mem_of_getElem? hy)
          have h1 := HP.out.1.cell (ptL_get hj7 hy)
          have e : (UInt8.ofNat (97 + y)).toNat = 97 + y := UInt8.toNat_ofNat_of_lt (by show 97 + y < 256; omega)
          refine ⟨?_, HP.out.1.frozen j⟩
          rw [h1, e]
        have htl : (txtN (grUp ss (dclP ss).length)).data.toList.length = (dclP ss).length := by rw [txtN_list, List.length_map, grUp_length]
        have hcv := bytes_text (cap := 7) hBT
        rw [htl, show (⟨(txtN (grUp ss (dclP ss).length)).data.toList.toArray⟩ : ByteArray) = txtN (grUp ss (dclP ss).length) from rfl] at hcv
        have HR : Hid (grdR ss = (txtN (grUp ss (dclP ss).length), true)) := Lib.hid (by unfold grdR; rw [if_pos HOK.out])
        generalize txtN (grUp ss (dclP ss).length) = TX at *
        have l0 : (0 : Int) ≤ ((dclP ss).length : Int) := by omega
        have l7 : ((dclP ss).length : Int) ≤ 7 := by omega
        clear hBT htl
        go_wp2
        go_ret2
        exact ⟨by rw [HR.out]; rfl, HBV.out.trans (HP.out.2.mono HBV.out.size)⟩
end Go.Proofs.YtifjljkbfabifaaDoor
