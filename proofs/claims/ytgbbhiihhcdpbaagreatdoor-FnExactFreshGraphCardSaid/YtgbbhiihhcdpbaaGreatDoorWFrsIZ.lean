/-
  The walks of impl's freshLetters, its closure, and FreshGraph. Conditions: the argument's memory holds the graph; the package-level errors hold errors.
-/
import Derived.Test.YtgbbhiihhcdpbaaGreatDoorWFrsSZ
import Derived.Test.YtgbbhiihhcdpbaaGreatDoorWOwnIZ
import Derived.Test.YtgbbhiihhcdpbaaGreatDoorJPZ
namespace Go.Proofs.YtgbbhiihhcdpbaaGreatDoor
open Go Go.RowKit
theorem below30 {p : Nat → Prop} [∀ n, Decidable (p n)] (h : ∀ n : Fin 30, p n.1) {n : Nat} (hn : n < 30) : p n := h ⟨n, hn⟩
theorem enc30 {k : Nat} (hk : k < 30) : Utf8.encode (97 + (k : Int)) = ⟨#[ltr k]⟩ :=
  below30 (p := fun k => Utf8.encode (97 + (k : Int)) = ⟨#[ltr k]⟩) (by decide +kernel) hk
theorem rune30 {k : Nat} (hk : k < 30) : IntKind.i32.wrap ((97 + (k : Int)) + 1) = (97 + ((k + 1 : Nat) : Int)) :=
  below30 (p := fun k => IntKind.i32.wrap ((97 + (k : Int)) + 1) = (97 + ((k + 1 : Nat) : Int))) (by decide +kernel) hk
theorem letters_any (w : World) : Calls Tryz.prog 50 #[] w fun e w' => e = .returned (.func (.func 102) #[] #[.pointer (some ⟨w.heap.size, 0, none⟩)]) ∧ w' = w.alloc (.cells #[.int .i32 97] 21) := by
  go_enter Tryz.func50, Tryz.ntmps50
  go_wp2
  go_ret
  exact ⟨rfl, rfl⟩
theorem letter_any {w : World} {L k : Nat} (hk : k < 30) (hL : Row w L 21 [.int .i32 (97 + (k : Int))]) :
    Calls Tryz.prog 102 #[.pointer (some ⟨L, 0, none⟩)] w fun e w' => e = .returned (.string ⟨#[ltr k]⟩) ∧ w' = w.setCell ⟨L, 0, none⟩ (.int .i32 (97 + ((k + 1 : Nat) : Int))) := by
  have c0 := hL.cell (i := 0) (v := .int .i32 (97 + (k : Int))) (by rfl)
  have f0 := hL.frozen 0
  have henc := enc30 hk
  have hwr := rune30 hk
  clear hL
  go_enter Tryz.func102, Tryz.ntmps102
  go_wp2
  go_ret
  exact ⟨rfl, rfl⟩
set_option maxRecDepth 100000 in
set_option maxHeartbeats 8000000 in
theorem implFresh_any (ss : List Sc) (hF : Fair ss) (oa : Option Addr) (cap : Nat) (w : World) (hc : HoldsScopes w oa ss) (hE : NmgErrs w) :
    Calls Tryz.prog 11 #[.agg #[.slice oa ss.length cap]] w (GrGot (frsOk ss) (frsG ss) w) := by
  have hb0 := ((Below.refl w.heap.size w).alloc (Nat.le_refl _) (.cells #[.slice oa ss.length cap] 25)).alloc (by simp) (.cells #[.slice none 0 0] 25)
  have R1 := Lib.hid ((Row.new w [.slice oa ss.length cap] 25).alloc (.cells #[.slice none 0 0] 25))
  have R2 := Row.new (w.alloc (.cells #[.slice oa ss.length cap] 25)) [.slice none 0 0] 25
  rw [World.size_alloc] at R2
  have R2 := Lib.hid R2
  have C := Lib.hid (implOwnNames_any ss hF oa cap _ (hc.below hb0 (Nat.le_refl _)) (hE.at hb0).trees)
  have C2 := Lib.hid (fun W (hW : Below w.heap.size w W) names (hs : names.size ≤ 1048576) => implNamed_any ss hF oa cap names hs W (hc.below hW (Nat.le_refl _)) (hE.at hW))
  have HB := Lib.hid hb0
  have g1 := R1.out.cell (i := 0) (v := .slice oa ss.length cap) (by rfl)
  clear hb0 hF hc hE
  go_enter Tryz.func11, Tryz.ntmps11
  go_wp2_with fail
  refine C.out.mono ?_
  rintro e w1 ⟨T, ok, rfl, hv, hb1⟩
  have HB1 := Lib.hid (HB.out.trans (hb1.mono HB.out.size))
  have R1a := Lib.hid (R1.out.below hb1 R1.out.lt)
  have R2a := Lib.hid (R2.out.below hb1 R2.out.lt)
  clear hb1 g1
  rcases hv with ⟨hv, rfl, rfl⟩ | ⟨hv, rfl, rfl⟩
  · have HN : Hid (¬ frsOk ss) := Lib.hid (fun h => hv h.1.1)
    have n0 := R2a.out.cell (i := 0) (v := .slice none 0 0) (by rfl)
    have f0 := R2a.out.frozen 0
    clear hv
    go_wp2
    have RT := R2a.out.set 0 (.slice none 0 0)
    have d0 := RT.cell (i := 0) (v := .slice none 0 0) (by rfl)
    exact bodyPost_ret (v := .tuple #[.agg #[.slice none 0 0], .bool false]) (by simp [results, Tryz.results11, go_sem, d0]) rfl (.inl ⟨HN.out, _, [], rfl, OwnGr.nil _ _, HB1.out.setCell (by simp) _⟩)
  · have HV := Lib.hid hv
    have hl30 := own_small hv
    have hbs := bT_size (ownT ss)
    have HLN := Lib.hid (ownT_length hv)
    obtain ⟨n, hn⟩ : ∃ n, (ownT ss).length = n := ⟨_, rfl⟩
    rw [hn] at hl30 hbs HLN
    clear hv
    go_wp2_with fail
    refine (letters_any w1).mono ?_
    rintro e w2 ⟨rfl, rfl⟩
    have hbL := (Below.refl w1.heap.size w1).alloc (Nat.le_refl _) (.cells #[.int .i32 97] 21)
    have HP0 : Hid (Below w1.heap.size w1 (w1.alloc (.cells #[.int .i32 97] 21)) ∧ Row (w1.alloc (.cells #[.int .i32 97] 21)) w1.heap.size 21 [.int .i32 (97 + ((0 : Nat) : Int))]) := Lib.hid ⟨hbL, Row.new w1 [.int .i32 97] 21⟩
    clear hbL
    go_wp2
    go_loopw [7, 19] (fun s i wr => ∃ k : Nat, i = .int .i64 k ∧ s = .string (bT (frsL k)) ∧ k ≤ n ∧ Hid (Below w1.heap.size w1 wr ∧ Row wr w1.heap.size 21 [.int .i32 (97 + (k : Int))])) (fun _ i _ => n - (intOf i).toNat)
    case atStart => exact ⟨0, rfl, rfl, Nat.zero_le _, HP0⟩
    case round =>
      obtain ⟨k, rfl, rfl, hk, hP⟩ := hrel
      by_cases hlt : k < n
      · have C5 := Lib.hid (letter_any (show k < 30 by omega) hP.out.2)
        have hfs : (bT (frsL k)).size = k := by rw [bT_size, frsL_length]
        have n1 : ¬ 9223372036854775807 < (bT (frsL k)).size + 1 := by omega
        have HSN : Hid (bT (frsL k) ++ ⟨#[ltr k]⟩ = bT (frsL (k + 1))) := Lib.hid (by rw [bT_append, frsL_snoc]; rfl)
        have HNX : Hid (Below w1.heap.size w1 (wr.setCell ⟨w1.heap.size, 0, none⟩ (.int .i32 (97 + ((k + 1 : Nat) : Int)))) ∧ Row (wr.setCell ⟨w1.heap.size, 0, none⟩ (.int .i32 (97 + ((k + 1 : Nat) : Int)))) w1.heap.size 21 [.int .i32 (97 + ((k + 1 : Nat) : Int))]) := Lib.hid ⟨hP.out.1.setCell (Nat.le_refl _) _, hP.out.2.set 0 _⟩
        go_wp2_with fail
        refine C5.out.mono ?_
        rintro e w5 ⟨rfl, rfl⟩
        have hsz1 : (ByteArray.mk #[ltr k]).size = 1 := rfl
        go_wp2
        go_roundw
        case rel => exact ⟨k + 1, by go_num, by rw [HSN.out], by omega, HNX⟩
        case measure => simp only [intOf]; omega
      · obtain rfl : k = n := by omega
        have HBW := Lib.hid (HB1.out.trans (hP.out.1.mono HB1.out.size))
        have R1c := Lib.hid (R1a.out.below hP.out.1 R1a.out.lt)
        have R2c := Lib.hid (R2a.out.below hP.out.1 R2a.out.lt)
        have g1 := R1c.out.cell (i := 0) (v := .slice oa ss.length cap) (by rfl)
        have C7 := Lib.hid (C2.out _ HBW.out (bT (frsL k)) (by rw [bT_size, frsL_length]; omega))
        have HOK : Hid (nmgOk ss (bT (frsL k)) ↔ frsOk ss) := Lib.hid ⟨fun h => ⟨h.1, Nat.not_lt.1 fun hlt => frs_not (bT_data _) (by have := HLN.out; omega) h.2⟩, fun h => by have h1 := h.nmg; rw [← HLN.out] at h1; exact h1⟩
        have HGE : Hid (nmgG ss (bT (frsL k)) = frsG ss) := Lib.hid (by unfold frsG; rw [← HLN.out])
        go_wp2_with fail
        refine C7.out.mono ?_
        intro e w6 hgot
        obtain ⟨ov, cv, xs, hs, b, rfl, hgv, hh, hO, hb6⟩ := hgot.val
        have HB6 := Lib.hid (HBW.out.trans (hb6.mono HBW.out.size))
        have R2d := Lib.hid (R2c.out.below hb6 R2c.out.lt)
        have HO := Lib.hid (hO.lower HBW.out.size)
        have HGV := Lib.hid hgv
        have n0 := R2d.out.cell (i := 0) (v := .slice none 0 0) (by rfl)
        have f0 := R2d.out.frozen 0
        clear hgot hgv hh hO hb6 g1
        go_wp2
        have RT := R2d.out.set 0 (.slice ov xs.length cv)
        have d0 := RT.cell (i := 0) (v := .slice ov xs.length cv) (by rfl)
        have HOT : OwnGr (w6.setCell ⟨w.heap.size + 1, 0, none⟩ (.slice ov xs.length cv)) w.heap.size (.slice ov xs.length cv) xs hs := ⟨HO.out.len, ownsRow_otherN HO.out.row R2d.out (by decide) 0 _, fun k t z h1 h2 => ownsRow_otherN (HO.out.items k t z h1 h2) R2d.out (by decide) 0 _, HO.out.apart⟩
        refine bodyPost_ret (v := .tuple #[.agg #[.slice ov xs.length cv], .bool b]) (by simp [results, Tryz.results11, go_sem, d0]) rfl ?_
        rcases HGV.out with ⟨h1, rfl, rfl⟩ | ⟨h1, rfl, rfl⟩
        · exact .inl ⟨fun h => h1 (HOK.out.2 h), _, hs, rfl, HOT, HB6.out.setCell (by simp) _⟩
        · rw [HGE.out] at HOT ⊢
          exact .inr ⟨HOK.out.1 h1, _, hs, rfl, HOT, HB6.out.setCell (by simp) _⟩
end Go.Proofs.YtgbbhiihhcdpbaaGreatDoor
