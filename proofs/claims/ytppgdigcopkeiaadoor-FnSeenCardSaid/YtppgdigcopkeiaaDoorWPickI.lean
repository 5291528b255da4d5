/-
  The walks of impl's namesFrom, VisibleNames, FreeNames and ClashesOf. Conditions: the argument's memory holds the graph; the package-level errors hold errors.
-/
import Derived.Test.YtppgdigcopkeiaaDoorVis
import Derived.Test.YtppgdigcopkeiaaDoorWImplLook
import Derived.Lib.OthersKept
import Derived.Laws.RangeAny
namespace Go.Proofs.YtppgdigcopkeiaaDoor
open Go Go.RowKit Go.Maps
attribute [local go_sem ↓] field_places
theorem pickI_next {W : World} {I k : Nat} (h : W.heap[I]? = some (.stringIter lettersB k)) (hk : k < 26) (ty : TypeId) :
    (Instr.next (.pointer (some ⟨I, 0, none⟩)) true ty).run Tryd.prog W = .ok (.tuple #[.bool true, .int .i64 (k : Int), .int .i32 ((97 + k : Nat) : Int)]) (W.iterAt I lettersB (k + 1)) := by
  obtain ⟨h1, h2⟩ := letters_at hk
  rw [Lib.run_next_ascii_at W I lettersB k ty h h1 (by omega), h2]
theorem pickI_end {W : World} {I k : Nat} (h : W.heap[I]? = some (.stringIter lettersB k)) (hk : ¬ k < 26) (ty : TypeId) :
    (Instr.next (.pointer (some ⟨I, 0, none⟩)) true ty).run Tryd.prog W = .ok (.tuple #[.bool false]) W :=
  Lib.run_next_end_at W I lettersB k ty h hk
/-- What holds at the head of a round. -/
structure PickAt (w wr : World) (B L M T M1 M2 : Nat) (v : Value) (ds : List Nd) (ss : List Sc) (k : Nat) : Prop where
  left : Left w wr B L M T M1 M2 v ds ss
  iter : wr.heap[w.heap.size]? = some (.stringIter lettersB k)
theorem PickAt.pos {w wr : World} {B L M T M1 M2 k : Nat} {v : Value} {ds : List Nd} {ss : List Sc} (h : PickAt w wr B L M T M1 M2 v ds ss k) : wr.iterPos w.heap.size = k := by
  unfold World.iterPos; rw [h.iter]
theorem PickAt.next {w wr : World} {B L M T M1 M2 k : Nat} {v : Value} {ds : List Nd} {ss : List Sc} (hL : LookW w B L M T M1 M2 v ds ss) (h : PickAt w wr B L M T M1 M2 v ds ss k) (j : Nat) : PickAt w (wr.iterAt w.heap.size lettersB j) B L M T M1 M2 v ds ss j :=
  ⟨Left.far hL h.left (Lib.below_iterAt (Below.refl _ _) (Nat.le_refl _) _ _), Lib.iterAt_heap wr _ _ _ _ h.iter⟩
theorem PickAt.call {w wr w' : World} {B L M T M1 M2 k : Nat} {v : Value} {ds : List Nd} {ss : List Sc} (hL : LookW w B L M T M1 M2 v ds ss) (h : PickAt w wr B L M T M1 M2 v ds ss k) (hl : Left wr w' B L M T M1 M2 v ds ss) : PickAt w w' B L M T M1 M2 v ds ss k :=
  ⟨h.left.trans hl, (hl.turns.rest _ (Array.getElem?_eq_some_iff.1 h.iter).1 (by have := hL.memo.lt; omega) (by have := hL.memo.lt; omega)).trans h.iter⟩
set_option maxRecDepth 100000 in
set_option maxHeartbeats 1600000 in
theorem namesFrom_Visible (f : Nat → Bool) (hFF : ∀ (m : Nat) (W : World), m ≤ 25 → Calls Tryd.prog 97 #[.int .i64 (m : Int)] W fun e w' => e = .returned (.bool (f m)) ∧ w' = W)
    (ss : List Sc) (hF : Fair ss) (oa : Option Addr) (cap : Nat) (n : Int) (w : World) (hc : HoldsScopes w oa ss) (hE : NodeErrs w) :
    Calls Tryd.prog 96 #[.agg #[.slice oa ss.length cap], .int .i64 n, .func (.func 97) #[] #[]] w (PickGot ss f n w) := by
  have hb0 := (Below.refl w.heap.size w).alloc (Nat.le_refl _) (.cells #[.slice oa ss.length cap] 30)
  have C := Lib.hid (nodeOf_any ss hF oa cap n _ (hc.below hb0 (Nat.le_refl _)) (hE.at hb0))
  have HB0 := Lib.hid hb0
  have HFF := Lib.hid hFF
  clear hF hc hE hb0 hFF
  go_enter Tryd.func96, Tryd.ntmps96
  go_wp2_with fail
  refine C.out.mono ?_
  rintro e w1 (⟨hv, ⟨tp, p, rfl⟩, hb⟩ | ⟨hv, s, d, T, M1, M2, v, ds, rfl, hs, hd, rfl, hb, hT⟩)
  · have HV := Lib.hid hv
    have HB := Lib.hid (HB0.out.trans (hb.mono HB0.out.size))
    clear hv hb
    go_wp2
    go_ret2
    exact ⟨_, false, rfl, .inl ⟨HV.out, rfl, rfl⟩, HB.out⟩
  · have HV : Hid (HasScope ss (s : Int)) := Lib.hid ⟨hv, by omega, by omega⟩
    have HB := Lib.hid (HB0.out.trans (hb.mono HB0.out.size))
    obtain ⟨B, HT⟩ : ∃ B, Hid (TreeIs w1 B T M1 M2 v ds ss) := ⟨_, Lib.hid hT⟩
    have HD := Lib.hid hd
    clear hv hb hT hd hs
    go_wp2_with fail
    refine (lookupIn_any T _).mono ?_
    rintro e w2 ⟨rfl, hR, hM, hb2⟩
    have HB2 := Lib.hid (HB.out.trans (hb2.mono HB.out.size))
    have HLW := Lib.hid (LookW.mk (HT.out.below hb2) hR (memo_nil hM) (by obtain ⟨_, h⟩ := HT.out.items; have := h.lt; omega) (by obtain ⟨_, h⟩ := HT.out.mods; have := h.lt; omega))
    have HSZ := Lib.hid hb2.size
    have HP0 : Hid (PickAt w2 (w2.iter lettersB 0) _ _ _ _ _ _ _ _ _ 0) := Lib.hid ⟨Left.far HLW.out HLW.out.left ((Below.refl _ _).alloc (Nat.le_refl _) _), World.iter_heap w2 lettersB 0⟩
    clear hR hM hb2
    go_wp2
    go_loopw [12] (fun o wr => ∃ k : Nat, k ≤ 26 ∧ o = .string (pickP ss s f k) ∧ Hid (PickAt w2 wr B (w1.heap.size + 1) w1.heap.size T M1 M2 v ds ss k)) (fun _ wr => 26 - wr.iterPos w2.heap.size)
    case atStart => exact ⟨0, by omega, rfl, HP0⟩
    case round =>
      obtain ⟨k, hk, rfl, HW⟩ := hrel
      by_cases hlt : k < 26
      · have hnx := pickI_next HW.out.iter hlt
        have henc : Utf8.encode (97 + (k : Int)) = letterB k := encode_letter hlt
        have HN := Lib.hid (HW.out.next HLW.out (k + 1))
        have C2 := Lib.hid (find_node HV.out.1 HN.out.left.look HD.out (fun m _ => target_any HV.out.1 m) (letterB k))
        have hz := pickP_size ss s f k
        have hsum : ¬ 9223372036854775807 < (pickP ss s f k).size + (letterB k).size := by rw [letterB_size]; omega
        go_wp2_with fail
        refine C2.out.mono ?_
        rintro e w3 ⟨u, rfl, hrow, hl3⟩
        obtain ⟨ou, cu, rfl⟩ := ownsRow_slice hrow
        have HW3 := Lib.hid (HN.out.call HLW.out hl3)
        have hpos := HW3.out.pos
        clear hrow hl3 hnx
        go_wp2_with fail
        refine (HFF.out _ _ (hits_le HV.out.1 s k)).mono ?_
        rintro e w4 ⟨rfl, rfl⟩
        cases hq : f (hits ss s k)
        · have HE : Hid (pickP ss s f (k + 1) = pickP ss s f k) := Lib.hid (pickP_no hq)
          clear hq
          go_wp2
          go_roundw
          case rel => exact ⟨k + 1, by omega, by rw [HE.out], HW3⟩
          case measure => rw [HW3.out.pos, HW.out.pos]; omega
        · have HE : Hid (pickP ss s f (k + 1) = pickP ss s f k ++ letterB k) := Lib.hid (pickP_yes hq)
          clear hq
          go_wp2
          go_roundw
          case rel => exact ⟨k + 1, by omega, by rw [HE.out], HW3⟩
          case measure => rw [HW3.out.pos, HW.out.pos]; omega
      · obtain rfl : k = 26 := by omega
        have hnx := pickI_end HW.out.iter hlt
        have HBE := Lib.hid (HB2.out.trans (HW.out.left.turns.below (by have := HB.out.size; have := HSZ.out; omega) (by have := HB.out.size; omega) HB2.out.size))
        go_wp2
        go_ret2
        exact ⟨_, true, rfl, .inr ⟨HV.out, by rw [Int.toNat_natCast], rfl⟩, HBE.out⟩
set_option maxRecDepth 100000 in
set_option maxHeartbeats 1600000 in
theorem namesFrom_Free (f : Nat → Bool) (hFF : ∀ (m : Nat) (W : World), m ≤ 25 → Calls Tryd.prog 98 #[.int .i64 (m : Int)] W fun e w' => e = .returned (.bool (f m)) ∧ w' = W)
    (ss : List Sc) (hF : Fair ss) (oa : Option Addr) (cap : Nat) (n : Int) (w : World) (hc : HoldsScopes w oa ss) (hE : NodeErrs w) :
    Calls Tryd.prog 96 #[.agg #[.slice oa ss.length cap], .int .i64 n, .func (.func 98) #[] #[]] w (PickGot ss f n w) := by
  have hb0 := (Below.refl w.heap.size w).alloc (Nat.le_refl _) (.cells #[.slice oa ss.length cap] 30)
  have C := Lib.hid (nodeOf_any ss hF oa cap n _ (hc.below hb0 (Nat.le_refl _)) (hE.at hb0))
  have HB0 := Lib.hid hb0
  have HFF := Lib.hid hFF
  clear hF hc hE hb0 hFF
  go_enter Tryd.func96, Tryd.ntmps96
  go_wp2_with fail
  refine C.out.mono ?_
  rintro e w1 (⟨hv, ⟨tp, p, rfl⟩, hb⟩ | ⟨hv, s, d, T, M1, M2, v, ds, rfl, hs, hd, rfl, hb, hT⟩)
  · have HV := Lib.hid hv
    have HB := Lib.hid (HB0.out.trans (hb.mono HB0.out.size))
    clear hv hb
    go_wp2
    go_ret2
    exact ⟨_, false, rfl, .inl ⟨HV.out, rfl, rfl⟩, HB.out⟩
  · have HV : Hid (HasScope ss (s : Int)) := Lib.hid ⟨hv, by omega, by omega⟩
    have HB := Lib.hid (HB0.out.trans (hb.mono HB0.out.size))
    obtain ⟨B, HT⟩ : ∃ B, Hid (TreeIs w1 B T M1 M2 v ds ss) := ⟨_, Lib.hid hT⟩
    have HD := Lib.hid hd
    clear hv hb hT hd hs
    go_wp2_with fail
    refine (lookupIn_any T _).mono ?_
    rintro e w2 ⟨rfl, hR, hM, hb2⟩
    have HB2 := Lib.hid (HB.out.trans (hb2.mono HB.out.size))
    have HLW := Lib.hid (LookW.mk (HT.out.below hb2) hR (memo_nil hM) (by obtain ⟨_, h⟩ := HT.out.items; have := h.lt; omega) (by obtain ⟨_, h⟩ := HT.out.mods; have := h.lt; omega))
    have HSZ := Lib.hid hb2.size
    have HP0 : Hid (PickAt w2 (w2.iter lettersB 0) _ _ _ _ _ _ _ _ _ 0) := Lib.hid ⟨Left.far HLW.out HLW.out.left ((Below.refl _ _).alloc (Nat.le_refl _) _), World.iter_heap w2 lettersB 0⟩
    clear hR hM hb2
    go_wp2
    go_loopw [12] (fun o wr => ∃ k : Nat, k ≤ 26 ∧ o = .string (pickP ss s f k) ∧ Hid (PickAt w2 wr B (w1.heap.size + 1) w1.heap.size T M1 M2 v ds ss k)) (fun _ wr => 26 - wr.iterPos w2.heap.size)
    case atStart => exact ⟨0, by omega, rfl, HP0⟩
    case round =>
      obtain ⟨k, hk, rfl, HW⟩ := hrel
      by_cases hlt : k < 26
      · have hnx := pickI_next HW.out.iter hlt
        have henc : Utf8.encode (97 + (k : Int)) = letterB k := encode_letter hlt
        have HN := Lib.hid (HW.out.next HLW.out (k + 1))
        have C2 := Lib.hid (find_node HV.out.1 HN.out.left.look HD.out (fun m _ => target_any HV.out.1 m) (letterB k))
        have hz := pickP_size ss s f k
        have hsum : ¬ 9223372036854775807 < (pickP ss s f k).size + (letterB k).size := by rw [letterB_size]; omega
        go_wp2_with fail
        refine C2.out.mono ?_
        rintro e w3 ⟨u, rfl, hrow, hl3⟩
        obtain ⟨ou, cu, rfl⟩ := ownsRow_slice hrow
        have HW3 := Lib.hid (HN.out.call HLW.out hl3)
        have hpos := HW3.out.pos
        clear hrow hl3 hnx
        go_wp2_with fail
        refine (HFF.out _ _ (hits_le HV.out.1 s k)).mono ?_
        rintro e w4 ⟨rfl, rfl⟩
        cases hq : f (hits ss s k)
        · have HE : Hid (pickP ss s f (k + 1) = pickP ss s f k) := Lib.hid (pickP_no hq)
          clear hq
          go_wp2
          go_roundw
          case rel => exact ⟨k + 1, by omega, by rw [HE.out], HW3⟩
          case measure => rw [HW3.out.pos, HW.out.pos]; omega
        · have HE : Hid (pickP ss s f (k + 1) = pickP ss s f k ++ letterB k) := Lib.hid (pickP_yes hq)
          clear hq
          go_wp2
          go_roundw
          case rel => exact ⟨k + 1, by omega, by rw [HE.out], HW3⟩
          case measure => rw [HW3.out.pos, HW.out.pos]; omega
      · obtain rfl : k = 26 := by omega
        have hnx := pickI_end HW.out.iter hlt
        have HBE := Lib.hid (HB2.out.trans (HW.out.left.turns.below (by have := HB.out.size; have := HSZ.out; omega) (by have := HB.out.size; omega) HB2.out.size))
        go_wp2
        go_ret2
        exact ⟨_, true, rfl, .inr ⟨HV.out, by rw [Int.toNat_natCast], rfl⟩, HBE.out⟩
set_option maxRecDepth 100000 in
set_option maxHeartbeats 1600000 in
theorem namesFrom_Clashes (f : Nat → Bool) (hFF : ∀ (m : Nat) (W : World), m ≤ 25 → Calls Tryd.prog 99 #[.int .i64 (m : Int)] W fun e w' => e = .returned (.bool (f m)) ∧ w' = W)
    (ss : List Sc) (hF : Fair ss) (oa : Option Addr) (cap : Nat) (n : Int) (w : World) (hc : HoldsScopes w oa ss) (hE : NodeErrs w) :
    Calls Tryd.prog 96 #[.agg #[.slice oa ss.length cap], .int .i64 n, .func (.func 99) #[] #[]] w (PickGot ss f n w) := by
  have hb0 := (Below.refl w.heap.size w).alloc (Nat.le_refl _) (.cells #[.slice oa ss.length cap] 30)
  have C := Lib.hid (nodeOf_any ss hF oa cap n _ (hc.below hb0 (Nat.le_refl _)) (hE.at hb0))
  have HB0 := Lib.hid hb0
  have HFF := Lib.hid hFF
  clear hF hc hE hb0 hFF
  go_enter Tryd.func96, Tryd.ntmps96
  go_wp2_with fail
  refine C.out.mono ?_
  rintro e w1 (⟨hv, ⟨tp, p, rfl⟩, hb⟩ | ⟨hv, s, d, T, M1, M2, v, ds, rfl, hs, hd, rfl, hb, hT⟩)
  · have HV := Lib.hid hv
    have HB := Lib.hid (HB0.out.trans (hb.mono HB0.out.size))
    clear hv hb
    go_wp2
    go_ret2
    exact ⟨_, false, rfl, .inl ⟨HV.out, rfl, rfl⟩, HB.out⟩
  · have HV : Hid (HasScope ss (s : Int)) := Lib.hid ⟨hv, by omega, by omega⟩
    have HB := Lib.hid (HB0.out.trans (hb.mono HB0.out.size))
    obtain ⟨B, HT⟩ : ∃ B, Hid (TreeIs w1 B T M1 M2 v ds ss) := ⟨_, Lib.hid hT⟩
    have HD := Lib.hid hd
    clear hv hb hT hd hs
    go_wp2_with fail
    refine (lookupIn_any T _).mono ?_
    rintro e w2 ⟨rfl, hR, hM, hb2⟩
    have HB2 := Lib.hid (HB.out.trans (hb2.mono HB.out.size))
    have HLW := Lib.hid (LookW.mk (HT.out.below hb2) hR (memo_nil hM) (by obtain ⟨_, h⟩ := HT.out.items; have := h.lt; omega) (by obtain ⟨_, h⟩ := HT.out.mods; have := h.lt; omega))
    have HSZ := Lib.hid hb2.size
    have HP0 : Hid (PickAt w2 (w2.iter lettersB 0) _ _ _ _ _ _ _ _ _ 0) := Lib.hid ⟨Left.far HLW.out HLW.out.left ((Below.refl _ _).alloc (Nat.le_refl _) _), World.iter_heap w2 lettersB 0⟩
    clear hR hM hb2
    go_wp2
    go_loopw [12] (fun o wr => ∃ k : Nat, k ≤ 26 ∧ o = .string (pickP ss s f k) ∧ Hid (PickAt w2 wr B (w1.heap.size + 1) w1.heap.size T M1 M2 v ds ss k)) (fun _ wr => 26 - wr.iterPos w2.heap.size)
    case atStart => exact ⟨0, by omega, rfl, HP0⟩
    case round =>
      obtain ⟨k, hk, rfl, HW⟩ := hrel
      by_cases hlt : k < 26
      · have hnx := pickI_next HW.out.iter hlt
        have henc : Utf8.encode (97 + (k : Int)) = letterB k := encode_letter hlt
        have HN := Lib.hid (HW.out.next HLW.out (k + 1))
        have C2 := Lib.hid (find_node HV.out.1 HN.out.left.look HD.out (fun m _ => target_any HV.out.1 m) (letterB k))
        have hz := pickP_size ss s f k
        have hsum : ¬ 9223372036854775807 < (pickP ss s f k).size + (letterB k).size := by rw [letterB_size]; omega
        go_wp2_with fail
        refine C2.out.mono ?_
        rintro e w3 ⟨u, rfl, hrow, hl3⟩
        obtain ⟨ou, cu, rfl⟩ := ownsRow_slice hrow
        have HW3 := Lib.hid (HN.out.call HLW.out hl3)
        have hpos := HW3.out.pos
        clear hrow hl3 hnx
        go_wp2_with fail
        refine (HFF.out _ _ (hits_le HV.out.1 s k)).mono ?_
        rintro e w4 ⟨rfl, rfl⟩
        cases hq : f (hits ss s k)
        · have HE : Hid (pickP ss s f (k + 1) = pickP ss s f k) := Lib.hid (pickP_no hq)
          clear hq
          go_wp2
          go_roundw
          case rel => exact ⟨k + 1, by omega, by rw [HE.out], HW3⟩
          case measure => rw [HW3.out.pos, HW.out.pos]; omega
        · have HE : Hid (pickP ss s f (k + 1) = pickP ss s f k ++ letterB k) := Lib.hid (pickP_yes hq)
          clear hq
          go_wp2
          go_roundw
          case rel => exact ⟨k + 1, by omega, by rw [HE.out], HW3⟩
          case measure => rw [HW3.out.pos, HW.out.pos]; omega
      · obtain rfl : k = 26 := by omega
        have hnx := pickI_end HW.out.iter hlt
        have HBE := Lib.hid (HB2.out.trans (HW.out.left.turns.below (by have := HB.out.size; have := HSZ.out; omega) (by have := HB.out.size; omega) HB2.out.size))
        go_wp2
        go_ret2
        exact ⟨_, true, rfl, .inr ⟨HV.out, by rw [Int.toNat_natCast], rfl⟩, HBE.out⟩
set_option maxRecDepth 100000 in
theorem fitsVisible (m : Nat) (W : World) (hm : m ≤ 25) : Calls Tryd.prog 97 #[.int .i64 (m : Int)] W fun e w' => e = .returned (.bool (inB (m : Int) 1 100)) ∧ w' = W := by
  have hq : (decide (0 < m)) = inB (m : Int) 1 100 := by rw [Bool.eq_iff_iff]; simp only [inB, decide_eq_true_iff, Bool.and_eq_true]; omega
  rw [← hq]
  clear hq
  go_enter Tryd.func97, Tryd.ntmps97
  go_wp2
  go_ret
  exact ⟨rfl, rfl⟩
set_option maxRecDepth 100000 in
theorem implVisible_any (ss : List Sc) (hF : Fair ss) (oa : Option Addr) (cap : Nat) (n : Int) (w : World) (hc : HoldsScopes w oa ss) (hE : NodeErrs w) :
    Calls Tryd.prog 33 #[.agg #[.slice oa ss.length cap], .int .i64 n] w (PickGot ss (fun m => inB (m : Int) 1 100) n w) := by
  have hb0 := (Below.refl w.heap.size w).alloc (Nat.le_refl _) (.cells #[.slice oa ss.length cap] 30)
  have C := Lib.hid (namesFrom_Visible (fun m => inB (m : Int) 1 100) fitsVisible ss hF oa cap n _ (hc.below hb0 (Nat.le_refl _)) (hE.at hb0))
  have HB0 := Lib.hid hb0
  clear hF hc hE hb0
  go_enter Tryd.func33, Tryd.ntmps33
  go_wp2_with fail
  refine C.out.mono ?_
  rintro e w1 ⟨str, ok, rfl, hR, hb⟩
  have HR := Lib.hid hR
  have HB := Lib.hid (HB0.out.trans (hb.mono HB0.out.size))
  clear hR hb
  go_wp2
  go_ret2
  exact ⟨_, _, rfl, HR.out, HB.out⟩
set_option maxRecDepth 100000 in
theorem fitsFree (m : Nat) (W : World) (hm : m ≤ 25) : Calls Tryd.prog 98 #[.int .i64 (m : Int)] W fun e w' => e = .returned (.bool (inB (m : Int) 0 0)) ∧ w' = W := by
  have hq : ((m : Int) == 0) = inB (m : Int) 0 0 := by rw [Bool.eq_iff_iff]; simp only [inB, decide_eq_true_iff, beq_iff_eq, Bool.and_eq_true]; omega
  rw [← hq]
  clear hq
  go_enter Tryd.func98, Tryd.ntmps98
  go_wp2
  go_ret
  exact ⟨rfl, rfl⟩
set_option maxRecDepth 100000 in
theorem implFree_any (ss : List Sc) (hF : Fair ss) (oa : Option Addr) (cap : Nat) (n : Int) (w : World) (hc : HoldsScopes w oa ss) (hE : NodeErrs w) :
    Calls Tryd.prog 34 #[.agg #[.slice oa ss.length cap], .int .i64 n] w (PickGot ss (fun m => inB (m : Int) 0 0) n w) := by
  have hb0 := (Below.refl w.heap.size w).alloc (Nat.le_refl _) (.cells #[.slice oa ss.length cap] 30)
  have C := Lib.hid (namesFrom_Free (fun m => inB (m : Int) 0 0) fitsFree ss hF oa cap n _ (hc.below hb0 (Nat.le_refl _)) (hE.at hb0))
  have HB0 := Lib.hid hb0
  clear hF hc hE hb0
  go_enter Tryd.func34, Tryd.ntmps34
  go_wp2_with fail
  refine C.out.mono ?_
  rintro e w1 ⟨str, ok, rfl, hR, hb⟩
  have HR := Lib.hid hR
  have HB := Lib.hid (HB0.out.trans (hb.mono HB0.out.size))
  clear hR hb
  go_wp2
  go_ret2
  exact ⟨_, _, rfl, HR.out, HB.out⟩
set_option maxRecDepth 100000 in
theorem fitsClashes (m : Nat) (W : World) (hm : m ≤ 25) : Calls Tryd.prog 99 #[.int .i64 (m : Int)] W fun e w' => e = .returned (.bool (inB (m : Int) 2 100)) ∧ w' = W := by
  have hq : (decide (1 < (m : Int))) = inB (m : Int) 2 100 := by rw [Bool.eq_iff_iff]; simp only [inB, decide_eq_true_iff, Bool.and_eq_true]; omega
  rw [← hq]
  clear hq
  go_enter Tryd.func99, Tryd.ntmps99
  go_wp2
  go_ret
  exact ⟨rfl, rfl⟩
set_option maxRecDepth 100000 in
theorem implClashes_any (ss : List Sc) (hF : Fair ss) (oa : Option Addr) (cap : Nat) (n : Int) (w : World) (hc : HoldsScopes w oa ss) (hE : NodeErrs w) :
    Calls Tryd.prog 35 #[.agg #[.slice oa ss.length cap], .int .i64 n] w (PickGot ss (fun m => inB (m : Int) 2 100) n w) := by
  have hb0 := (Below.refl w.heap.size w).alloc (Nat.le_refl _) (.cells #[.slice oa ss.length cap] 30)
  have C := Lib.hid (namesFrom_Clashes (fun m => inB (m : Int) 2 100) fitsClashes ss hF oa cap n _ (hc.below hb0 (Nat.le_refl _)) (hE.at hb0))
  have HB0 := Lib.hid hb0
  clear hF hc hE hb0
  go_enter Tryd.func35, Tryd.ntmps35
  go_wp2_with fail
  refine C.out.mono ?_
  rintro e w1 ⟨str, ok, rfl, hR, hb⟩
  have HR := Lib.hid hR
  have HB := Lib.hid (HB0.out.trans (hb.mono HB0.out.size))
  clear hR hb
  go_wp2
  go_ret2
  exact ⟨_, _, rfl, HR.out, HB.out⟩
end Go.Proofs.YtppgdigcopkeiaaDoor
