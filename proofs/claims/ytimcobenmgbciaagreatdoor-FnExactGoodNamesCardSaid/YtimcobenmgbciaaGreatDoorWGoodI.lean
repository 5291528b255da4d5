/-
  The walk of impl's GoodNames. Conditions: the argument's memory holds the graph; the package-level errors hold errors.
-/
import Derived.Test.YtimcobenmgbciaaGreatDoorAllN
import Derived.Test.YtimcobenmgbciaaGreatDoorGoodP
import Derived.Test.YtimcobenmgbciaaGreatDoorWHides
import Derived.Test.YtimcobenmgbciaaGreatDoorJC
namespace Go.Proofs.YtimcobenmgbciaaGreatDoor
open Go Go.RowKit
attribute [local go_sem] Oper.semAt_some
set_option maxRecDepth 100000 in
set_option maxHeartbeats 8000000 in
theorem implGoodNames_any (ss : List Sc) (hF : Fair ss) (oa : Option Addr) (cap : Nat) (a b : Int) (ha : (Lit.int .i64 a).wf = true) (hb' : (Lit.int .i64 b).wf = true) (w : World) (hc : HoldsScopes w oa ss) (hE : DeclErrs w) :
    Calls Tryz.prog 9 #[.agg #[.slice oa ss.length cap], .agg #[.int .i64 a, .int .i64 b]] w (GoodGot ss a b w) := by
  have hb0 := ((Below.refl w.heap.size w).alloc (Nat.le_refl _) (.cells #[.slice oa ss.length cap] 32)).alloc (by simp) (.cells #[.int .i64 a, .int .i64 b] 34)
  have R1 := Lib.hid ((Row.new w [.slice oa ss.length cap] 32).alloc (.cells #[.int .i64 a, .int .i64 b] 34))
  have R2 := Row.new (w.alloc (.cells #[.slice oa ss.length cap] 32)) [.int .i64 a, .int .i64 b] 34
  rw [World.size_alloc] at R2
  have R2 := Lib.hid R2
  have C := Lib.hid ((callsIn_wide (n := 5)).2 (declarationAt_any ss hF oa cap a b ha hb' _ (hc.below hb0 (Nat.le_refl _)) (hE.at hb0)))
  have HB0 := Lib.hid hb0
  have HF := Lib.hid hF
  have HC := Lib.hid hc
  have HE := Lib.hid hE
  have HWF := Lib.hid (And.intro ha hb')
  have g0 := R1.out.cell (i := 0) (v := .slice oa ss.length cap) (by rfl)
  have p0 := R2.out.cell (i := 0) (v := .int .i64 a) (by rfl)
  have p1 := R2.out.cell (i := 1) (v := .int .i64 b) (by rfl)
  clear hF hc hE hb0 ha hb'
  refine (callsIn_wide (n := 6)).1 ?_
  refine callsIn_of_wp_marks Tryz.func9 rfl trivial ?_ rfl
  simp only [Tryz.ntmps9, List.size_toArray, List.length_cons, List.length_nil, Nat.reduceAdd, Nat.reduceSub, Array.replicate_succ, Array.replicate_zero, List.push_toArray, List.append_toArray, List.nil_append, List.cons_append]
  gi_wp2_with fail
  refine ⟨trivial, ?_⟩
  gi_at_call 21
  refine C.out.mono ?_
  rintro e w1 (⟨hn, ⟨tp, p, rfl⟩, hb⟩ | ⟨hvs, i, j, x, T, M1, M2, B, v, ds, rfl, rfl, hx, hxk, hq, rfl, hb, -, -⟩)
  · have HN : Hid (¬ declOk ss a b) := Lib.hid hn
    have HB := Lib.hid (HB0.out.trans (hb.mono HB0.out.size))
    clear hn hb
    gi_wp2
    exact ⟨_, by simp [results, Tryz.results9, go_sem], ⟨_, false, rfl, .inl ⟨HN.out, rfl, rfl⟩, HB.out.alloc HB.out.size _⟩⟩
  · have HH : Hid (declOk ss (i : Int) (j : Int)) := Lib.hid ⟨hvs, x, hx, hxk⟩
    have HB := Lib.hid (HB0.out.trans (hb.mono HB0.out.size))
    have R1a := Lib.hid (R1.out.below hb R1.out.lt)
    have R2a := Lib.hid (R2.out.below hb R2.out.lt)
    clear hvs hx hxk hq hb g0 p0 p1
    gi_wp2_with fail
    refine ⟨trivial, ?_⟩
    gi_at_call 22
    refine ((callsIn_wide (n := 5)).2 (allNames_any _)).mono ?_
    rintro e w2 ⟨rfl, rfl⟩
    gi_wp2
    have hBx : Below w1.heap.size w1 ((w1.alloc (.cells #[.int .i64 x.kind, .string x.name, .int .i64 x.scope] 51)).alloc (.cells #[.string ⟨#[]⟩] 9)) := ((Below.refl _ _).alloc (Nat.le_refl _) _).alloc (by simp) _
    have RG := Row.new (w1.alloc (.cells #[.int .i64 x.kind, .string x.name, .int .i64 x.scope] 51)) [.string ⟨#[]⟩] 9
    rw [World.size_alloc] at RG
    have HLT : Hid (w.heap.size + 1 < w1.heap.size) := Lib.hid R2a.out.lt
    refine wpIn_rangeFunc_ownH rfl (by omega) (gf := 36) (lb := #[]) rfl trivial (enters_of Tryz.func36 (by kernel_rfl) rfl)
      (names_stops 5 (by omega) (fun _ _ => True) _) (fun _ _ => trivial) (fun _ _ _ _ _ _ _ _ => trivial) (Below.refl _ _) (fun _ => rfl)
      (fun pre W => Row W (w1.heap.size + 1) 9 [.string (goodL (goodB ss (i : Int) (j : Int)) (pre.map Fin.val))] ∧ Below w1.heap.size w1 W)
      (fun _ _ _ => False)
      (OwnFrom.and (row_own _ _ _ fun pre : List (Fin 26) => [.string (goodL (goodB ss (i : Int) (j : Int)) (pre.map Fin.val))]) (ownFrom_below (Nat.le_refl _) (by simp; omega)))
      (fun _ _ _ _ _ hs _ _ => hs)
      ⟨RG, hBx⟩
      (fun y a' _ => a' = { tmps := #[.agg #[.slice oa ss.length cap], .agg #[.int .i64 (i : Int), .int .i64 (j : Int)], .pointer (some ⟨w.heap.size, 0, none⟩), .pointer (some ⟨w.heap.size + 1, 0, none⟩), .string ⟨#[]⟩, .bool false, .pointer (some ⟨T, 0, none⟩), .pointer (some ⟨w1.heap.size, 0, none⟩), .nilIface, .pointer (some ⟨w1.heap.size + 1, 0, none⟩), .int .i32 (97 + (y.1 : Int)), undef, .tuple #[.pointer (some ⟨T, 0, none⟩), .agg #[.int .i64 x.kind, .string x.name, .int .i64 x.scope], .nilIface], .agg #[.slice oa ss.length cap], .agg #[.int .i64 (i : Int), .int .i64 (j : Int)], .tuple #[.pointer (some ⟨T, 0, none⟩), .agg #[.int .i64 x.kind, .string x.name, .int .i64 x.scope], .nilIface], .pointer (some ⟨T, 0, none⟩), .agg #[.int .i64 x.kind, .string x.name, .int .i64 x.scope], .nilIface, .nilIface, .bool false, .func (.func 36) #[] #[], .int .i32 (97 + (y.1 : Int)), undef, undef, undef, undef, undef, undef, undef, undef, undef, undef], defers := [] })
      (fun _ _ _ _ _ _ hs _ _ => hs)
      ?assign ?body ?done ?stop
    case assign =>
      rintro l pre y W K hi hK
      dsimp only
      gi_wp2
      exact hK _ _ (KeepsFrom.refl _ _) trivial hi rfl
    case body =>
      rintro l pre y a' W hl _ ⟨hG, hbw⟩ rfl hlen
      obtain ⟨k, hk⟩ := y
      dsimp only
      have henc : Utf8.encode (97 + (k : Int)) = letterB k := encode_letter hk
      have g0 := (R1a.out.below hbw R1a.out.lt).cell (i := 0) (v := .slice oa ss.length cap) (by rfl)
      have p0 := (R2a.out.below hbw R2a.out.lt).cell (i := 0) (v := .int .i64 (i : Int)) (by rfl)
      have p1 := (R2a.out.below hbw R2a.out.lt).cell (i := 1) (v := .int .i64 (j : Int)) (by rfl)
      have HI := Lib.hid (And.intro hG hbw)
      have C2 := Lib.hid (CallsIn.inRound l ((callsIn_wide (n := 3)).2 (implCanRename_any ss HF.out oa cap (i : Int) (j : Int) (letterB k) HWF.out.1 HWF.out.2 W (HC.out.below (HB.out.trans (hbw.mono HB.out.size)) (Nat.le_refl _)) (HE.out.trees.below (HB.out.trans (hbw.mono HB.out.size)) HE.out.trees.size))))
      have HLEN := Lib.hid hlen
      clear hG hbw hl hlen
      gi_wp2_with fail
      refine ⟨trivial, ?_⟩
      gi_at_call 23
      refine C2.out.mono ?_
      rintro e w5 ⟨q, rfl, hq, hb⟩
      have HQ := Lib.hid (goodB_of hq)
      have HKF := Lib.hid (keepsOthers_of_below hb)
      have HB5 := Lib.hid (HI.out.2.trans (hb.mono HI.out.2.size))
      have HG5 := Lib.hid (HI.out.1.below hb HI.out.1.lt)
      have hz := goodL_size (goodB ss (i : Int) (j : Int)) pre.length (pre.map Fin.val) (List.length_map ..)
      have hsum : ¬ 9223372036854775807 < (goodL (goodB ss (i : Int) (j : Int)) (pre.map Fin.val)).size + (letterB k).size := by rw [letterB_size]; have := HLEN.out; omega
      have s0 := HG5.out.cell (i := 0) (by rfl)
      have sf := HG5.out.frozen 0
      clear hb hq g0 p0 p1
      cases q
      · have HG6 : Hid (Row w5 (w1.heap.size + 1) 9 [.string (goodL (goodB ss (i : Int) (j : Int)) ((pre ++ [(⟨k, hk⟩ : Fin 26)]).map Fin.val))]) := Lib.hid (by
          rw [List.map_append]
          show Row w5 (w1.heap.size + 1) 9 [.string (goodL (goodB ss (i : Int) (j : Int)) (pre.map Fin.val ++ [k]))]
          rw [goodL_no HQ.out]
          exact HG5.out)
        gi_wp2
        exact ⟨HKF.out.from _, trivial, HG6.out, HB5.out⟩
      · have HG6 : Hid (Row (w5.setCell ⟨w1.heap.size + 1, 0, none⟩ (.string (goodL (goodB ss (i : Int) (j : Int)) (pre.map Fin.val) ++ letterB k))) (w1.heap.size + 1) 9 [.string (goodL (goodB ss (i : Int) (j : Int)) ((pre ++ [(⟨k, hk⟩ : Fin 26)]).map Fin.val))]) := Lib.hid (by
          rw [List.map_append]
          show Row _ (w1.heap.size + 1) 9 [.string (goodL (goodB ss (i : Int) (j : Int)) (pre.map Fin.val ++ [k]))]
          rw [goodL_yes HQ.out]
          exact HG5.out.set 0 _)
        gi_wp2
        exact ⟨(HKF.out.trans (KeepsOthers.setCell _ _ _)).from _, trivial, HG6.out, HB5.out.setCell (by simp) _⟩
    case done =>
      rintro D xs W hD hS ⟨hG, hbw⟩ hK
      have c0 := hG.cell (i := 0) (by rfl)
      have HS := Lib.hid hS
      have HBW := Lib.hid hbw
      have HK := Lib.hid hK
      have hDD : Hid (w1.heap.size ≤ D) := Lib.hid (by simp at hD; omega)
      clear hS hG hbw hK hD
      gi_wp2
      refine ⟨by simp, .inl ⟨_, _, rfl, run_takeDeferred HK.out, ?_⟩⟩
      refine ⟨.tuple #[.string (goodL (goodB ss (i : Int) (j : Int)) (xs.map Fin.val)), .bool true], by simp [results, Tryz.results9, go_sem], ⟨_, true, rfl, .inr ⟨HH.out, by rw [HS.out], rfl⟩, ?_⟩⟩
      exact (HB.out.trans (HBW.out.mono HB.out.size)).trans (belowK_b (w := w) (Nat.le_refl _) W D _ _ (Nat.le_trans HB.out.size hDD.out) HK.out rfl rfl)
    case stop =>
      rintro D c pre W _ _ h _
      exact h.elim
end Go.Proofs.YtimcobenmgbciaaGreatDoor
