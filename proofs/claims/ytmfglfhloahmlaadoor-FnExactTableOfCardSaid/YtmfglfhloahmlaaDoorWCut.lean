/-
  The walk of spec.l13Cut: at every text of at most 2^20 bytes and every byte it returns a slice of its own that holds the pieces of the text between these bytes; what was there before stays.
-/
import Derived.Test.YtmfglfhloahmlaaDoorNumText
import Derived.Test.YtmfglfhloahmlaaDoorBase
import Derived.WalkKit
import Derived.Lib.Hide
import Derived.Outline
import Derived.Deep.DeepCutAuto
namespace Go.Proofs.YtmfglfhloahmlaaDoor
open Go Go.RowKit Sg
theorem info9 : (Tryd.prog.info? 9).map (fun i => (i.zero, i.size, i.bytes)) = some (some (.string ByteArray.empty), 1, 16) := by kernel_rfl
/-- A text as a value. -/
def strV (p : List UInt8) : Value := .string ⟨p.toArray⟩
theorem strV_extract (s : ByteArray) (f k : Nat) : Value.string (s.extract f k) = strV ((s.data.toList.drop f).take (k - f)) := by
  unfold strV
  congr 1
  apply ByteArray.ext
  apply Array.toList_inj.1
  rw [ByteArray.data_extract, Array.toList_extract, List.extract_eq_take_drop]
theorem one_cell (b : ByteArray) : ∀ u ∈ [Value.string b], u.oneCell' = true := by
  intro u hu; simp at hu; subst hu; rfl
/-- What l13Cut's loop says of its slots and the world. -/
def CutRel (s : ByteArray) (c : UInt8) (w : World) (v f i : Value) (wr : World) : Prop :=
  ∃ (k j : Nat) (done : List (List UInt8)), i = .int .i64 k ∧ f = .int .i64 j ∧ k ≤ s.size + 1 ∧ j ≤ k ∧ done.length ≤ k ∧ Cutting c s.data.toList done j k ∧ wr.ownsRow w.heap.size 9 1 v done.length (done.map strV) ∧ Below w.heap.size w wr
theorem rel_cut {s : ByteArray} {c : UInt8} {w wr w1 : World} {v v' : Value} {k j : Nat} {done : List (List UInt8)} {x : Value} {t : TypeId} (hk : k ≤ s.size) (hd : done.length ≤ k)
    (hcut : Cutting c s.data.toList (done ++ [(s.data.toList.drop j).take (k - j)]) (k + 1) (k + 1)) (hown : wr.ownsRow w.heap.size 9 1 v done.length (done.map strV)) (hb : Below w.heap.size w wr)
    (hown' : w1.ownsRow w.heap.size 9 1 v' (done.length + 1) (done.map strV ++ [.string (s.extract j k)])) (hg : (wr.alloc (.cells #[x] t)).grownBy w1 v.ownBlock) :
    CutRel s c w v' (.int .i64 (((k : Nat) : Int) + 1)) (.int .i64 (((k : Nat) : Int) + 1)) w1 := by
  refine ⟨k + 1, k + 1, done ++ [(s.data.toList.drop j).take (k - j)], by go_num, by go_num, by omega, Nat.le_refl _, by simp; omega, hcut, ?_, ?_⟩
  · rw [List.length_append, List.map_append]
    rw [strV_extract] at hown'
    exact hown'
  · have := hb.size
    exact (hb.alloc hb.size _).grown hg (by simp; omega) (fun r hr => (hown.lt r hr).1)
set_option maxRecDepth 100000 in
set_option maxHeartbeats 1600000 in
theorem l13Cut_any (s : ByteArray) (c : UInt8) (w : World) (hs : s.size ≤ 1048576) :
    Calls Tryd.prog 168 #[.string s, .int .u8 c.toNat] w fun e w' => ∃ v, e = .returned v ∧ w'.ownsRow w.heap.size 9 1 v (parts c s.data.toList).length ((parts c s.data.toList).map strV) ∧ Below w.heap.size w w' := by
  obtain ⟨i0, hi, hz0, hz1, hz2⟩ := info_parts info9
  have hlen : s.data.toList.length = s.size := by rw [Array.length_toList]; rfl
  have HL := Lib.hid hlen
  clear hlen
  have HS := Lib.hid hs
  have hs2 : s.size < 2 ^ 62 := by omega
  clear hs
  go_enter Tryd.func168, Tryd.ntmps168
  go_wp2
  go_loopw [5, 6, 7] (fun v f i wr => CutRel s c w v f i wr) (fun _ _ i _ => s.size + 1 - (intOf i).toNat)
  case atStart => exact ⟨0, 0, [], rfl, rfl, by omega, Nat.le_refl _, Nat.le_refl _, Cutting.start _ _, World.ownsRow_made w #[] 0 (Nat.le_refl _) (by unfold maxLen; omega) rfl, (Below.refl _ _).alloc (Nat.le_refl _) _⟩
  case round =>
    obtain ⟨k, j, done, rfl, rfl, hk, hj, hd, hcut, hown, hb⟩ := hrel
    have hd2 : done.length ≤ 1048577 := by have := HS.out; omega
    have hkj : k ≤ s.size → j ≤ k := fun _ => hj
    by_cases hlt : k ≤ s.size
    · by_cases hke : k = s.size
      · subst hke
        have hcut' : Hid _ := Lib.hid (by have := hcut; rw [← HL.out] at this; have h2 := this.last; rw [HL.out] at h2; exact h2)
        clear hcut
        go_wp2_with (at_builtin; refine wpList_append_own _ rfl _ _ 109 rfl w.heap.size 9 i0 (.string ByteArray.empty) 1 16 Tryd.underlying109 hi hz0 hz1 hz2 rfl (by decide) _ _ _ rfl (hown.alloc _) ⟨wr.heap.size, 0, none⟩ 1 1 [.string (s.extract j s.size)] rfl rfl ?c1 ?c2 ?c3 ?c4 ?c5 ?_)
        case c1 => exact cells_new _ _ _
        case c2 => exact one_cell _
        case c3 => unfold maxLen; omega
        case c4 => omega
        case c5 => have := hb.size; simp only [World.size_alloc]; omega
        · intro v' w1 hown' hgrow _
          have R := Lib.hid (rel_cut (by omega) hd hcut'.out hown hb hown' hgrow)
          clear hown' hgrow hown hb
          go_wp2
          go_roundw
          case rel => exact R.out
          case measure => simp only [intOf]; omega

      · have hkl : k < s.size := by omega
        have hkl' : k < s.data.toList.length := by rw [HL.out]; exact hkl
        have hke' : ¬ (s.size = k) := fun e => hke e.symm
        have hsk : s.data.toList[k]'hkl' = s[k]'hkl := rfl
        by_cases hc : s[k]'hkl = c
        · have hcut' := Lib.hid (hcut.hit hkl' (hsk.trans hc))
          have hc1 : ((((s[k]'hkl).toNat : Nat) : Int) == (c.toNat : Int)) = true := by rw [hc]; exact beq_self_eq_true _
          clear hcut hsk hc
          go_wp2_with (at_builtin; refine wpList_append_own _ rfl _ _ 109 rfl w.heap.size 9 i0 (.string ByteArray.empty) 1 16 Tryd.underlying109 hi hz0 hz1 hz2 rfl (by decide) _ _ _ rfl (hown.alloc _) ⟨wr.heap.size, 0, none⟩ 1 1 [.string (s.extract j k)] rfl rfl ?c1 ?c2 ?c3 ?c4 ?c5 ?_)
          case c1 => exact cells_new _ _ _
          case c2 => exact one_cell _
          case c3 => unfold maxLen; omega
          case c4 => omega
          case c5 => have := hb.size; simp only [World.size_alloc]; omega
          · intro v' w1 hown' hgrow _
            have R := Lib.hid (rel_cut (by omega) hd hcut'.out hown hb hown' hgrow)
            clear hown' hgrow hown hb
            go_wp2
            go_roundw
            case rel => exact R.out
            case measure => simp only [intOf]; omega
        · have hcut' := Lib.hid (hcut.miss hkl' (fun e => hc (hsk.symm.trans e)))
          have hc1 : ((((s[k]'hkl).toNat : Nat) : Int) == (c.toNat : Int)) = false := by
            rw [beq_eq_false_iff_ne]; intro e; apply hc; apply UInt8.toNat_inj.1; omega
          clear hcut hsk hc
          go_wp2
          go_roundw
          case rel => exact ⟨k + 1, j, done, by go_num, rfl, by omega, by omega, by omega, hcut'.out, hown, hb⟩
          case measure => simp only [intOf]; omega
    · have hfin := hcut.fin (by rw [HL.out]; omega)
      subst hfin
      go_wp2
      go_ret
      exact ⟨_, rfl, hown, hb⟩
end Go.Proofs.YtmfglfhloahmlaaDoor
