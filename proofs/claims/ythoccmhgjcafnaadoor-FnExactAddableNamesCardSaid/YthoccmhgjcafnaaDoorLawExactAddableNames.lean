/-
  The walks of the given l5Pick, VisibleNames, FreeNames and ClashesOf. Condition: the argument's memory holds the graph. The walks of AddableNames, given and impl. Conditions: the argument's memory holds the graph; the package-level errors hold errors. The walk of the law FnExactAddableNames: at every argument it returns true, and only new memory is written. Condition: the package-level errors hold errors.
-/
import Derived.Test.YthoccmhgjcafnaaDoorJD
import Derived.Test.YthoccmhgjcafnaaDoorWCapS
import Derived.Lib.OthersKept
import Derived.IntWalk
import Derived.Laws.RangeAny
import Derived.Test.YthoccmhgjcafnaaDoorJB
namespace Go.Proofs.YthoccmhgjcafnaaDoor
open Go Go.RowKit
theorem cut_nat (p : ByteArray) (j k : Nat) (hj : j ≤ k) (hk : k ≤ p.size) (w : World) : (Instr.slice 9 (.string p) (some (.int .i64 (j : Int))) (some (.int .i64 (k : Int))) none).run Tryd.prog w = .ok (.string (p.extract j k)) w := by
  simp [go_sem, hj, hk]
theorem cut_letter {k : Nat} (hk : k < 26) (w : World) : (Instr.slice 9 (.string ⟨#[97, 98, 99, 100, 101, 102, 103, 104, 105, 106, 107, 108, 109, 110, 111, 112, 113, 114, 115, 116, 117, 118, 119, 120, 121, 122]⟩) (some (.int .i64 (k : Int))) (some (.int .i64 ((k : Int) + 1))) none).run Tryd.prog w = .ok (.string (letterB k)) w := by
  have h := cut_nat lettersB k (k + 1) (Nat.le_succ _) (by rw [letters_size]; omega) w
  rw [letters_cut hk] at h
  exact h
end Go.Proofs.YthoccmhgjcafnaaDoor
namespace Go.Proofs.YthoccmhgjcafnaaDoor
open Go Go.RowKit
theorem pickJ_next {W : World} {I k : Nat} (h : W.heap[I]? = some (.stringIter lettersB k)) (hk : k < 26) (ty : TypeId) :
    (Instr.next (.pointer (some ⟨I, 0, none⟩)) true ty).run Tryd.prog W = .ok (.tuple #[.bool true, .int .i64 (k : Int), .int .i32 ((97 + k : Nat) : Int)]) (W.iterAt I lettersB (k + 1)) := by
  obtain ⟨h1, h2⟩ := letters_at hk
  rw [Lib.run_next_ascii_at W I lettersB k ty h h1 (by omega), h2]
theorem pickJ_end {W : World} {I k : Nat} (h : W.heap[I]? = some (.stringIter lettersB k)) (hk : ¬ k < 26) (ty : TypeId) :
    (Instr.next (.pointer (some ⟨I, 0, none⟩)) true ty).run Tryd.prog W = .ok (.tuple #[.bool false]) W :=
  Lib.run_next_end_at W I lettersB k ty h hk
/-- Those of the first k letters that fit. -/
def pickA (f : Nat → Bool) : Nat → ByteArray
  | 0 => ⟨#[]⟩
  | k + 1 => if f k = true then pickA f k ++ letterB k else pickA f k
theorem pickA_yes {f : Nat → Bool} {k : Nat} (h : f k = true) : pickA f (k + 1) = pickA f k ++ letterB k := by
  show (if _ then _ else _) = _
  rw [if_pos h]
theorem pickA_no {f : Nat → Bool} {k : Nat} (h : f k = false) : pickA f (k + 1) = pickA f k := by
  show (if _ then _ else _) = _
  rw [if_neg (by rw [h]; decide)]
theorem pickA_size (f : Nat → Bool) : ∀ k : Nat, (pickA f k).size ≤ k
  | 0 => Nat.le_refl _
  | k + 1 => by
    have ih := pickA_size f k
    cases h : f k with
    | true => rw [pickA_yes h, ByteArray.size_append, letterB_size]; omega
    | false => rw [pickA_no h]; omega
/-- Whether the k-th letter can be added. -/
def canL (ss : List Sc) (n : Int) (k : Nat) : Bool := decide (chgA ss (addAt ss n 1 (letterB k)) = [])
theorem canL_val {ss : List Sc} {n : Int} {k : Nat} {b : Bool} (hr : Room ss n) (hk : k < 26) (h : CanVal (addOk ss n (letterB k)) (chgA ss (addAt ss n 1 (letterB k))) b) : b = canL ss n k := by
  rcases h with ⟨h1, _⟩ | ⟨_, h2⟩
  · exact absurd ⟨hr, nameB_letter hk⟩ h1
  · exact h2
/-- What AddableNames answers. -/
def addblR (ss : List Sc) (n : Int) (str : ByteArray) (ok : Bool) : Prop := (¬ Room ss n ∧ str = ⟨#[]⟩ ∧ ok = false) ∨ (Room ss n ∧ str = pickA (canL ss n) 26 ∧ ok = true)
theorem addblR.same {ss : List Sc} {n : Int} {a b : ByteArray} {ok ok' : Bool} (h : addblR ss n a ok) (k : addblR ss n b ok') : a = b ∧ ok = ok' := by
  rcases h with ⟨h1, rfl, rfl⟩ | ⟨h1, rfl, rfl⟩ <;> rcases k with ⟨k1, rfl, rfl⟩ | ⟨k1, rfl, rfl⟩
  · exact ⟨rfl, rfl⟩
  · exact absurd k1 h1
  · exact absurd h1 k1
  · exact ⟨rfl, rfl⟩
def AddblGot (ss : List Sc) (n : Int) (w : World) (e : Ending) (w' : World) : Prop := ∃ str ok, e = .returned (.tuple #[.string str, .bool ok]) ∧ addblR ss n str ok ∧ Below w.heap.size w w'
set_option maxRecDepth 100000 in
set_option maxHeartbeats 4000000 in
theorem specAddable_any (ss : List Sc) (hF : Fair ss) (oa : Option Addr) (cap : Nat) (n : Int) (w : World) (hc : HoldsScopes w oa ss) :
    Calls Tryd.prog 18 #[.agg #[.slice oa ss.length cap], .int .i64 n] w (AddblGot ss n w) := by
  have hb0 := (Below.refl w.heap.size w).alloc (Nat.le_refl _) (.cells #[.slice oa ss.length cap] 31)
  have C := Lib.hid (l7Room_any ss hF.fits oa cap n _ (hc.below hb0 (Nat.le_refl _)))
  have R := Lib.hid (Row.new w [.slice oa ss.length cap] 31)
  have HB0 := Lib.hid hb0
  have HC := Lib.hid hc
  have HF := Lib.hid hF
  clear hF hc hb0
  go_enter Tryd.func18, Tryd.ntmps18
  go_wp2_with fail
  refine C.out.mono ?_
  rintro e w1 ⟨b, rfl, hv, hb⟩
  have HB := Lib.hid (HB0.out.trans (hb.mono HB0.out.size))
  have R1 := Lib.hid (R.out.below hb R.out.lt)
  have HV := Lib.hid hv
  clear hb hv
  cases b
  · have HN : Hid (¬ Room ss n) := Lib.hid (fun h => by have := HV.out.2 h; cases this)
    go_wp2
    go_ret2
    exact ⟨_, false, rfl, .inl ⟨HN.out, rfl, rfl⟩, HB.out⟩
  · have HH := Lib.hid (HV.out.1 rfl)
    go_wp2
    go_loopw [6, 12] (fun o i wr => ∃ k : Nat, i = .int .i64 k ∧ k ≤ 26 ∧ o = .string (pickA (canL ss n) k) ∧ Hid (Below w.heap.size w wr ∧ Row wr w.heap.size 31 [.slice oa ss.length cap])) (fun _ i _ => 26 - (intOf i).toNat)
    case atStart => exact ⟨0, rfl, by omega, rfl, Lib.hid ⟨HB.out, R1.out⟩⟩
    case round =>
      obtain ⟨k, rfl, hk, rfl, HW⟩ := hrel
      by_cases hlt : k < 26
      · have HX := Lib.hid hlt
        have hcut := cut_letter hlt
        have hwr : IntKind.i64.wrap ((k : Int) + 1) = (k : Int) + 1 := IntWalk.i64_in _ (by omega)
        have g0 := HW.out.2.cell (i := 0) (by rfl)
        have hz := pickA_size (canL ss n) k
        have hsum : ¬ 9223372036854775807 < (pickA (canL ss n) k).size + (letterB k).size := by rw [letterB_size]; omega
        go_wp2
        refine wp_region_kept (S := fun w' => w'.cell? ⟨w.heap.size, 0, none⟩ = some (.slice oa ss.length cap)) 20 (by kernel_rfl) ?_
        have hS0 := cell_drew g0
        refine KeptAny.take (i := 0) (v := ?_) (by kernel_rfl) rfl rfl (by kernel_rfl) (by kernel_rfl) (by kernel_rfl) (fun _ _ _ h => h) (by rfl) (fun w' hw' => ?_) (fun _ => rfl) hS0 ?_
        rotate_left
        · (go_simp; (try rw [hwr]); (try rw [hcut]); (try with_reducible rfl); (try rfl))
        refine KeptAny.take (i := 1) (v := ?_) (by kernel_rfl) rfl rfl (by kernel_rfl) (by kernel_rfl) (by kernel_rfl) (fun _ _ _ h => h) (by rfl) (fun w' hw' => ?_) (fun _ => rfl) hS0 ?_
        rotate_left
        · (go_simp; (try rw [hwr]); (try rw [hcut]); (try with_reducible rfl); (try rfl))
        refine KeptAny.take (i := 2) (v := ?_) (by kernel_rfl) rfl rfl (by kernel_rfl) (by kernel_rfl) (by kernel_rfl) (fun _ _ _ h => h) (by rfl) (fun w' hw' => ?_) (fun _ => rfl) hS0 ?_
        rotate_left
        · (go_simp; (try rw [hwr]); (try rw [hcut]); (try with_reducible rfl); (try rfl))
        refine KeptAny.take (i := 3) (v := ?_) (by kernel_rfl) rfl rfl (by kernel_rfl) (by kernel_rfl) (by kernel_rfl) (fun _ _ _ h => h) (by rfl) (fun w' hw' => ?_) (fun _ => rfl) hS0 ?_
        rotate_left
        · (go_simp; (try rw [hwr]); (try rw [hcut]); (try with_reducible rfl); (try rfl))
        refine KeptAny.take (i := 4) (v := ?_) (by kernel_rfl) rfl rfl (by kernel_rfl) (by kernel_rfl) (by kernel_rfl) (fun _ _ _ h => h) (by rfl) (fun w' hw' => ?_) (fun _ => rfl) hS0 ?_
        rotate_left
        · (go_simp; (try rw [hwr]); (try rw [hcut]); (try with_reducible rfl); (try rfl))
        refine KeptAny.take (i := 5) (v := ?_) (by kernel_rfl) rfl rfl (by kernel_rfl) (by kernel_rfl) (by kernel_rfl) (fun _ _ _ h => h) (by rfl) (fun w' hw' => ?_) (fun _ => rfl) hS0 ?_
        rotate_left
        · (go_simp; (try rw [hwr]); (try rw [hcut]); (try with_reducible rfl); (try rfl))
        have HD0 : Hid (Below wr.heap.size wr wr.drew) := Lib.hid ((Below.refl _ _).drew)
        have HS0 := Lib.hid hS0
        clear hS0 g0
        refine KeptAny.one (i := 6) (by kernel_rfl) rfl (by rfl) (fun K hK => ?_)
        go_simp
        refine ⟨trivial, ?_⟩
        refine ((callsIn_wide (n := 5)).2 (specCanAdd_any ss HF.out oa cap n (letterB k) _ (HC.out.below (HW.out.1.trans (HD0.out.mono HW.out.1.size)) (Nat.le_refl _)))).mono ?_
        rintro e w2 ⟨q, rfl, hq, hb2⟩
        have HQ := Lib.hid (canL_val HH.out HX.out hq)
        have HW2 := Lib.hid (show Below w.heap.size w w2 ∧ Row w2 w.heap.size 31 [.slice oa ss.length cap] from ⟨HW.out.1.trans ((HD0.out.trans (hb2.mono HD0.out.size)).mono HW.out.1.size), HW.out.2.below (HD0.out.trans (hb2.mono HD0.out.size)) HW.out.2.lt⟩)
        refine hK.out _ _ (cell_grow hb2 HS0.out) (fun _ => ?_)
        clear hK hb2 hq
        refine KeptAny.done (by kernel_rfl) ?_ _
        cases q
        · have HE : Hid (pickA (canL ss n) (k + 1) = pickA (canL ss n) k) := Lib.hid (pickA_no HQ.out.symm)
          go_wp2
          go_roundw
          case rel => exact ⟨k + 1, by go_num, by omega, by rw [HE.out], HW2⟩
          case measure => simp only [intOf]; omega
        · have HE : Hid (pickA (canL ss n) (k + 1) = pickA (canL ss n) k ++ letterB k) := Lib.hid (pickA_yes HQ.out.symm)
          go_wp2
          go_roundw
          case rel => exact ⟨k + 1, by go_num, by omega, by rw [HE.out], HW2⟩
          case measure => simp only [intOf]; omega
      · obtain rfl : k = 26 := by omega
        go_wp2
        go_ret2
        exact ⟨_, true, rfl, .inr ⟨HH.out, rfl, rfl⟩, HW.out.1⟩
set_option maxRecDepth 100000 in
set_option maxHeartbeats 4000000 in
theorem implAddable_any (ss : List Sc) (hF : Fair ss) (oa : Option Addr) (cap : Nat) (n : Int) (w : World) (hc : HoldsScopes w oa ss) (hE : AddErrs w) :
    Calls Tryd.prog 19 #[.agg #[.slice oa ss.length cap], .int .i64 n] w (AddblGot ss n w) := by
  have hb0 := (Below.refl w.heap.size w).alloc (Nat.le_refl _) (.cells #[.slice oa ss.length cap] 31)
  have C := Lib.hid (hF.tree oa cap _ (hc.below hb0 (Nat.le_refl _)) (hE.at hb0).names.nodes.trees)
  have R := Lib.hid (Row.new w [.slice oa ss.length cap] 31)
  have HB0 := Lib.hid hb0
  have HC := Lib.hid hc
  have HF := Lib.hid hF
  have HE := Lib.hid hE
  have g0 := R.out.cell (i := 0) (by rfl)
  clear hF hc hb0 hE
  go_enter Tryd.func19, Tryd.ntmps19
  go_wp2_with fail
  refine C.out.mono ?_
  rintro e w1 (⟨hn, ⟨tp, p, rfl⟩, hb⟩ | ⟨hv, T, M1, M2, v, ds, rfl, hb, hT⟩)
  · have HN : Hid (¬ Room ss n) := Lib.hid (fun h => hn h.1)
    have HB := Lib.hid (HB0.out.trans (hb.mono HB0.out.size))
    clear hn hb
    go_wp2
    go_ret2
    exact ⟨_, false, rfl, .inl ⟨HN.out, rfl, rfl⟩, HB.out⟩
  · have HB := Lib.hid (HB0.out.trans (hb.mono HB0.out.size))
    have R1 := Lib.hid (R.out.below hb R.out.lt)
    have C2 := Lib.hid (endOf_any hv hT (HE.out.at HB.out).ends n)
    have HV := Lib.hid hv
    clear hv hb hT g0
    go_wp2_with fail
    refine C2.out.mono ?_
    rintro e w2 (⟨hn, ⟨tp, p, rfl⟩, hb2⟩ | ⟨i, c, rfl, hci, hl5, rfl, hb2⟩)
    · have HN := Lib.hid hn
      have HB2 := Lib.hid ((HB.out.trans (hb2.mono HB.out.size)).alloc (HB.out.trans (hb2.mono HB.out.size)).size (.cells #[.int .i64 0, .int .i64 0] 44))
      clear hn hb2
      go_wp2
      go_ret2
      exact ⟨_, false, rfl, .inl ⟨HN.out, rfl, rfl⟩, HB2.out⟩
    · have HR : Hid (Room ss (i : Int)) := Lib.hid ⟨HV.out, i, c, rfl, hci, hl5⟩
      obtain ⟨z, hz⟩ : ∃ z : Int, (c.items.length : Int) = z := ⟨_, rfl⟩
      rw [hz]
      have hbx := hb2.trans (((Below.refl w2.heap.size w2).alloc (Nat.le_refl _) (.cells #[.int .i64 (i : Int), .int .i64 z] 44)).mono hb2.size)
      have HB2 := Lib.hid (HB.out.trans (hbx.mono HB.out.size))
      have R2 := Lib.hid (R1.out.below hbx R1.out.lt)
      clear hci hl5 hz hb2 hbx
      go_wp2
      have hs3 : Hid ((w2.alloc (.cells #[.int .i64 (i : Int), .int .i64 z] 44)).heap.size = w2.heap.size + 1) := Lib.hid (by simp)
      generalize w2.alloc (.cells #[.int .i64 (i : Int), .int .i64 z] 44) = w3 at *
      have HP0 : Hid (Below w.heap.size w (w3.iter lettersB 0) ∧ Row (w3.iter lettersB 0) w.heap.size 31 [.slice oa ss.length cap] ∧ (w3.iter lettersB 0).heap[w2.heap.size + 1]? = some (.stringIter lettersB 0)) := Lib.hid
        ⟨HB2.out.trans (((Below.refl w3.heap.size w3).alloc (Nat.le_refl _) _).mono HB2.out.size), R2.out.below ((Below.refl w3.heap.size w3).alloc (Nat.le_refl _) _) R2.out.lt, by have h := World.iter_heap w3 lettersB 0; rw [hs3.out] at h; exact h⟩
      go_loopw [10] (fun o wr => ∃ k : Nat, k ≤ 26 ∧ o = .string (pickA (canL ss (i : Int)) k) ∧ Hid (Below w.heap.size w wr ∧ Row wr w.heap.size 31 [.slice oa ss.length cap] ∧ wr.heap[w2.heap.size + 1]? = some (.stringIter lettersB k))) (fun _ wr => 26 - wr.iterPos (w2.heap.size + 1))
      case atStart => exact ⟨0, by omega, rfl, HP0⟩
      case round =>
        obtain ⟨k, hk, rfl, HW⟩ := hrel
        have hposk : Hid (wr.iterPos (w2.heap.size + 1) = k) := Lib.hid (by unfold World.iterPos; rw [HW.out.2.2])
        by_cases hlt : k < 26
        · have HX := Lib.hid hlt
          have hnx := pickJ_next HW.out.2.2 hlt
          have henc : Utf8.encode (97 + (k : Int)) = letterB k := encode_letter hlt
          have hle : w.heap.size + 1 ≤ w2.heap.size + 1 := by have h := R2.out.lt; rw [hs3.out] at h; exact h
          have HN : Hid (Below w.heap.size w (wr.iterAt (w2.heap.size + 1) lettersB (k + 1)) ∧ Row (wr.iterAt (w2.heap.size + 1) lettersB (k + 1)) w.heap.size 31 [.slice oa ss.length cap] ∧ (wr.iterAt (w2.heap.size + 1) lettersB (k + 1)).heap[w2.heap.size + 1]? = some (.stringIter lettersB (k + 1))) := Lib.hid
            ⟨Lib.below_iterAt HW.out.1 (by omega) _ _, HW.out.2.1.below (Lib.below_iterAt (Below.refl (w.heap.size + 1) wr) hle _ _) (Nat.lt_succ_self _), Lib.iterAt_heap wr _ _ _ _ HW.out.2.2⟩
          have g0 := HN.out.2.1.cell (i := 0) (v := .slice oa ss.length cap) (by rfl)
          have C3 := Lib.hid (implCanAdd_any ss HF.out oa cap (i : Int) (letterB k) _ (HC.out.below HN.out.1 (Nat.le_refl _)) (HE.out.at HN.out.1))
          have hz := pickA_size (canL ss (i : Int)) k
          have hsum : ¬ 9223372036854775807 < (pickA (canL ss (i : Int)) k).size + (letterB k).size := by rw [letterB_size]; omega
          clear hle
          go_wp2_with fail
          refine C3.out.mono ?_
          rintro e w4 ⟨q, rfl, hq, hb4⟩
          have HQ := Lib.hid (canL_val HR.out HX.out hq)
          have HW4 : Hid (Below w.heap.size w w4 ∧ Row w4 w.heap.size 31 [.slice oa ss.length cap] ∧ w4.heap[w2.heap.size + 1]? = some (.stringIter lettersB (k + 1))) := Lib.hid
            ⟨HN.out.1.trans (hb4.mono HN.out.1.size), HN.out.2.1.below hb4 HN.out.2.1.lt, (hb4.block _ (Array.getElem?_eq_some_iff.1 HN.out.2.2).1).trans HN.out.2.2⟩
          have HPO : Hid (w4.iterPos (w2.heap.size + 1) = k + 1) := Lib.hid (by unfold World.iterPos; rw [HW4.out.2.2])
          clear hb4 hq hnx g0
          cases q
          · have HE2 : Hid (pickA (canL ss (i : Int)) (k + 1) = pickA (canL ss (i : Int)) k) := Lib.hid (pickA_no HQ.out.symm)
            go_wp2
            go_roundw
            case rel => exact ⟨k + 1, by omega, by rw [HE2.out], HW4⟩
            case measure => rw [HPO.out, hposk.out]; omega
          · have HE2 : Hid (pickA (canL ss (i : Int)) (k + 1) = pickA (canL ss (i : Int)) k ++ letterB k) := Lib.hid (pickA_yes HQ.out.symm)
            go_wp2
            go_roundw
            case rel => exact ⟨k + 1, by omega, by rw [HE2.out], HW4⟩
            case measure => rw [HPO.out, hposk.out]; omega
        · obtain rfl : k = 26 := by omega
          have hnx := pickJ_end HW.out.2.2 hlt
          go_wp2
          go_ret2
          exact ⟨_, true, rfl, .inr ⟨HR.out, rfl, rfl⟩, HW.out.1⟩
end Go.Proofs.YthoccmhgjcafnaaDoor
namespace Go.Proofs.YthoccmhgjcafnaaDoor
open Go Go.RowKit
set_option maxRecDepth 100000 in
set_option maxHeartbeats 4000000 in
theorem lawExactAddableNames (ss : List Sc) (oa : Option Addr) (cap : Nat) (n : Int) (w : World) (hf : FitsScopes ss) (hI : I64Scopes ss) (hc : HoldsScopes w oa ss) (hE : AddErrs w) :
    Calls Tryd.prog 5 #[.agg #[.slice oa ss.length cap], .int .i64 n] w fun e w' => e = .returned (.bool true) ∧ Below w.heap.size w w' := by
  have hb0 := (Below.refl w.heap.size w).alloc (Nat.le_refl _) (.cells #[.slice oa ss.length cap] 24)
  have C0 := Lib.hid (szGraph_any ss oa cap 1048576 _ hf (hc.below hb0 (Nat.le_refl _)) (by omega) (by omega))
  have HB0 := Lib.hid hb0
  have R0 := Lib.hid (Row.new w [.slice oa ss.length cap] 24)
  by_cases hn : wScopes ss ≤ 1048576
  · have HF := Lib.hid (Fair.of_weight hf hI hn)
    rw [rest_pos (by omega)] at C0
    have h0 : (0 : Int) ≤ 1048576 - (wScopes ss : Int) := by omega
    have HC := Lib.hid hc
    have HE := Lib.hid hE
    have HW := Lib.hid hn
    clear hn hc hE hb0 hf hI
    go_enter Tryd.func5, Tryd.ntmps5
    go_wp2_with fail
    refine C0.out.mono ?_
    rintro e w1 ⟨rfl, hb1⟩
    have B1 := Lib.hid (belowS HB0.out hb1)
    have R1 := Lib.hid (R0.out.below hb1 R0.out.lt)
    have c1 := R1.out.cell (i := 0) (by rfl)
    clear hb1
    go_wp2_with fail
    refine (toGraph_holds HF.out oa cap HC.out B1.out).mono ?_
    rintro e w2 ⟨g2, rfl, hh2, hb2⟩
    have B2 := Lib.hid (belowS B1.out hb2)
    have R2 := Lib.hid (R1.out.below hb2 R1.out.lt)
    have H2 := Lib.hid hh2
    clear hb2 hh2 c1
    go_wp2_with fail
    refine (specAddable_any ss HF.out _ _ n _ H2.out).mono ?_
    intro e w3 hgot
    obtain ⟨str, ok, rfl, hv, hb3⟩ := hgot
    have V3 := Lib.hid hv
    have B3 := Lib.hid (belowS B2.out hb3)
    have R3 := Lib.hid (R2.out.below hb3 R2.out.lt)
    have c3 := R3.out.cell (i := 0) (by rfl)
    clear hb3 hv
    go_wp2_with fail
    refine (toGraph_holds HF.out oa cap HC.out B3.out).mono ?_
    rintro e w4 ⟨g4, rfl, hh4, hb4⟩
    have B4 := Lib.hid (belowS B3.out hb4)
    have hbA := (Below.refl w4.heap.size w4).alloc (Nat.le_refl _) (.cells #[.slice (some ⟨g4, 0, none⟩) ss.length ss.length] 31)
    have RA := Lib.hid (Row.new w4 [.slice (some ⟨g4, 0, none⟩) ss.length ss.length] 31)
    have BA := Lib.hid (belowS B4.out hbA)
    have R4 := Lib.hid ((R3.out.below hb4 R3.out.lt).alloc (.cells #[.slice (some ⟨g4, 0, none⟩) ss.length ss.length] 31))
    have HA := Lib.hid (hh4.below hbA (Nat.le_refl _))
    clear hb4 hh4 hbA
    go_wp2_with fail
    refine (implAddable_any ss HF.out _ _ n _ HA.out (HE.out.at BA.out)).mono ?_
    intro e w5 hgot5
    obtain ⟨str', ok', rfl, hv5, hb5⟩ := hgot5
    obtain ⟨rfl, rfl⟩ := hv5.same V3.out
    have B5 := Lib.hid (belowS BA.out hb5)
    have R5 := Lib.hid (R4.out.below hb5 R4.out.lt)
    have RX := Lib.hid (RA.out.below hb5 RA.out.lt)
    have H5 := Lib.hid (HA.out.below hb5 (Nat.le_refl _))
    clear hb5 hv5
    have hss : (str'.toList == str'.toList) = true := by simp
    have c5 := R5.out.cell (i := 0) (by rfl)
    have d5 := RX.out.cell (i := 0) (by rfl)
    have c5' := (((Below.refl _ _).drew).cell (p := ⟨w.heap.size, 0, none⟩) R5.out.lt).trans c5
    have d5' := (((Below.refl _ _).drew).cell (p := ⟨w4.heap.size, 0, none⟩) RX.out.lt).trans d5
    go_wp2
    go_cut [43] (fun s wx => s = .bool false ∧ Below w5.heap.size w5 wx)
    case first =>
      go_region_with (first
        | (go_at_call 9; refine (toGraph_holds HF.out oa cap HC.out B5.out.drew).mono ?_; rintro e w6 ⟨g6, rfl, hh6, hb6⟩; have H6 := Lib.hid hh6; have B6 := Lib.hid (show Below w5.heap.size w5 w6 from ((Below.refl _ _).drew).trans hb6); have d6 := (RX.out.below B6.out RX.out.lt).cell (i := 0) (by rfl); clear hh6 hb6)
        | (go_at_call 12; refine (eqGraph_fair HF.out H5.out H6.out B6.out (Below.refl _ _)).mono ?_; rintro e w7 ⟨rfl, hb7⟩; have B7 := Lib.hid (belowS B6.out hb7); clear hb7))
      all_goals go_wp2
      all_goals go_meet
      all_goals exact ⟨rfl, B7.out⟩
    case rest =>
      obtain ⟨rfl, hbc⟩ := hcut
      have BE := Lib.hid (belowS B5.out hbc)
      clear hbc
      go_wp2
      go_ret
      exact ⟨rfl, BE.out⟩
  · rw [rest_neg (by omega)] at C0
    clear hn hc hE hb0 hf hI
    go_enter Tryd.func5, Tryd.ntmps5
    go_wp2_with fail
    refine C0.out.mono ?_
    rintro e w1 ⟨rfl, hb1⟩
    have B1 := Lib.hid (belowS HB0.out hb1)
    clear hb1
    go_wp2
    go_ret
    exact ⟨rfl, B1.out⟩
end Go.Proofs.YthoccmhgjcafnaaDoor
