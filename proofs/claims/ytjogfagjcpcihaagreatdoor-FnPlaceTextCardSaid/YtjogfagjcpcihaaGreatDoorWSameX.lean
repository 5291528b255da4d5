/-
  The walks of the laws' sgPlaces and sgSame. Condition: the arguments' memory holds the lists. A law's argument of bytes opened.
-/
import Derived.Test.YtjogfagjcpcihaaGreatDoorJBX
import Derived.Test.YtjogfagjcpcihaaGreatDoorJAX
import Derived.Test.YtjogfagjcpcihaaGreatDoorJDX
import Derived.Test.YtjogfagjcpcihaaGreatDoorWDrawAllX
import Derived.ChangeSame
import Derived.ProofKit
import Derived.OpenShut
namespace Go.Proofs.YtjogfagjcpcihaaGreatDoor
open Go Go.RowKit
theorem take_ne {α : Type} {ps qs : List α} {k : Nat} {p q : α} (hp : ps[k]? = some p) (hq : qs[k]? = some q) (h : p ≠ q) : ps ≠ qs := by
  rintro rfl
  rw [hp] at hq
  exact h (Option.some.inj hq)
theorem take_next {α : Type} {ps qs : List α} {k : Nat} {p : α} (h : ps.take k = qs.take k) (hp : ps[k]? = some p) (hq : qs[k]? = some p) : ps.take (k + 1) = qs.take (k + 1) := by
  rw [List.take_add_one, List.take_add_one, hp, hq, h]
theorem take_all {α : Type} {ps qs : List α} {k : Nat} (h : ps.take k = qs.take k) (hk : k = min ps.length qs.length) : ps = qs ↔ ps.length = qs.length := by
  refine ⟨fun e => by rw [e], fun e => ?_⟩
  rw [List.take_of_length_le (by omega), List.take_of_length_le (by omega)] at h
  exact h
/-- What the laws' comparisons answer. -/
def SameGot (eq : Prop) (w : World) (e : Ending) (w' : World) : Prop := ∃ b : Bool, e = .returned (.bool b) ∧ (b = true ↔ eq) ∧ Below w.heap.size w w'
set_option maxRecDepth 100000 in
set_option maxHeartbeats 1600000 in
theorem sgPlaces_any (ps qs : List (Int × Int)) (oa ob : Option Addr) (ca cb : Nat) (w : World) (hn : ps.length ≤ 1000000) (hm : qs.length ≤ 1000000) (ha : ArgPlaces w oa ps) (hb : ArgPlaces w ob qs) :
    Calls Tryz.prog 15 #[.slice oa ps.length ca, .slice ob qs.length cb] w (SameGot (ps = qs) w) := by
  have HA := Lib.hid ha
  have HB := Lib.hid hb
  clear ha hb
  go_enter Tryz.func15, Tryz.ntmps15
  go_wp2
  · go_loopw [11] (fun i wr => ∃ k : Nat, i = .int .i64 k ∧ k ≤ qs.length ∧ Hid (ps.take k = qs.take k) ∧ Hid (Below w.heap.size w wr)) (fun i _ => qs.length - (intOf i).toNat)
    case atStart => exact ⟨0, rfl, Nat.zero_le _, Lib.hid rfl, Lib.hid (Below.refl _ _)⟩
    case round =>
      obtain ⟨k, rfl, hk, HT, HW⟩ := hrel
      by_cases hlt : k < qs.length
      · have hl1 : k < ps.length := by omega
        have hl2 : k < qs.length := by omega
        obtain ⟨p, hp⟩ : ∃ p, ps[k]? = some p := ⟨_, List.getElem?_eq_getElem hl1⟩
        obtain ⟨q, hq⟩ : ∃ q, qs[k]? = some q := ⟨_, List.getElem?_eq_getElem hl2⟩
        obtain ⟨b1, f1, rfl, hb1, c1⟩ := (HA.out.below HW.out).at (by omega)
        obtain ⟨b2, f2, rfl, hb2, c2⟩ := (HB.out.below HW.out).at (by omega)
        obtain ⟨p0, p1⟩ := c1 k p hp
        obtain ⟨q0, q1⟩ := c2 k q hq
        have HP := Lib.hid hp
        have HQ := Lib.hid hq
        have HD := Lib.hid (HW.out.drew)
        have p0' := cell_drew p0
        have p1' := cell_drew p1
        have q0' := cell_drew q0
        have q1' := cell_drew q1
        clear c1 c2 hp hq p0 p1 q0 q1 hb1 hb2
        obtain ⟨a, b⟩ := p
        obtain ⟨c, d⟩ := q
        by_cases he : a = c ∧ b = d
        · obtain ⟨rfl, rfl⟩ := he
          have hab : ((a == a) && (b == b)) = true := by simp
          have HN := Lib.hid (take_next HT.out HP.out HQ.out)
          go_upto_region 4 with (fail)
          go_region
          all_goals go_wp2
          all_goals go_roundw
          all_goals first
            | exact ⟨k + 1, by go_num, by omega, HN, HD⟩
            | (simp only [intOf]; omega)
        · have HNE : Hid ((false = true) ↔ ps = qs) := Lib.hid ⟨fun h => (by cases h), fun h => absurd h (take_ne HP.out HQ.out (fun e => he ⟨by have := congrArg Prod.fst e; exact this, by have := congrArg Prod.snd e; exact this⟩))⟩
          by_cases h1 : a = c
          · subst h1
            have h2 : ¬ b = d := fun h => he ⟨rfl, h⟩
            clear he
            go_upto_region 4 with (fail)
            go_region
            all_goals go_wp2
            all_goals go_ret
            all_goals exact ⟨_, rfl, HNE.out, HD.out⟩
          · clear he
            go_upto_region 4 with (fail)
            go_region
            all_goals go_wp2
            all_goals go_ret
            all_goals exact ⟨_, rfl, HNE.out, HD.out⟩
      · have hkk : k = min ps.length qs.length := by omega
        have HE := Lib.hid (take_all HT.out hkk)
        clear hkk
        go_wp2
        go_ret
        exact ⟨_, rfl, by rw [HE.out]; simp; constructor <;> intro h <;> omega, HW.out⟩
  · go_loopw [11] (fun i wr => ∃ k : Nat, i = .int .i64 k ∧ k ≤ ps.length ∧ Hid (ps.take k = qs.take k) ∧ Hid (Below w.heap.size w wr)) (fun i _ => ps.length - (intOf i).toNat)
    case atStart => exact ⟨0, rfl, Nat.zero_le _, Lib.hid rfl, Lib.hid (Below.refl _ _)⟩
    case round =>
      obtain ⟨k, rfl, hk, HT, HW⟩ := hrel
      by_cases hlt : k < ps.length
      · have hl1 : k < ps.length := by omega
        have hl2 : k < qs.length := by omega
        obtain ⟨p, hp⟩ : ∃ p, ps[k]? = some p := ⟨_, List.getElem?_eq_getElem hl1⟩
        obtain ⟨q, hq⟩ : ∃ q, qs[k]? = some q := ⟨_, List.getElem?_eq_getElem hl2⟩
        obtain ⟨b1, f1, rfl, hb1, c1⟩ := (HA.out.below HW.out).at (by omega)
        obtain ⟨b2, f2, rfl, hb2, c2⟩ := (HB.out.below HW.out).at (by omega)
        obtain ⟨p0, p1⟩ := c1 k p hp
        obtain ⟨q0, q1⟩ := c2 k q hq
        have HP := Lib.hid hp
        have HQ := Lib.hid hq
        have HD := Lib.hid (HW.out.drew)
        have p0' := cell_drew p0
        have p1' := cell_drew p1
        have q0' := cell_drew q0
        have q1' := cell_drew q1
        clear c1 c2 hp hq p0 p1 q0 q1 hb1 hb2
        obtain ⟨a, b⟩ := p
        obtain ⟨c, d⟩ := q
        by_cases he : a = c ∧ b = d
        · obtain ⟨rfl, rfl⟩ := he
          have hab : ((a == a) && (b == b)) = true := by simp
          have HN := Lib.hid (take_next HT.out HP.out HQ.out)
          go_upto_region 4 with (fail)
          go_region
          all_goals go_wp2
          all_goals go_roundw
          all_goals first
            | exact ⟨k + 1, by go_num, by omega, HN, HD⟩
            | (simp only [intOf]; omega)
        · have HNE : Hid ((false = true) ↔ ps = qs) := Lib.hid ⟨fun h => (by cases h), fun h => absurd h (take_ne HP.out HQ.out (fun e => he ⟨by have := congrArg Prod.fst e; exact this, by have := congrArg Prod.snd e; exact this⟩))⟩
          by_cases h1 : a = c
          · subst h1
            have h2 : ¬ b = d := fun h => he ⟨rfl, h⟩
            clear he
            go_upto_region 4 with (fail)
            go_region
            all_goals go_wp2
            all_goals go_ret
            all_goals exact ⟨_, rfl, HNE.out, HD.out⟩
          · clear he
            go_upto_region 4 with (fail)
            go_region
            all_goals go_wp2
            all_goals go_ret
            all_goals exact ⟨_, rfl, HNE.out, HD.out⟩
      · have hkk : k = min ps.length qs.length := by omega
        have HE := Lib.hid (take_all HT.out hkk)
        clear hkk
        go_wp2
        go_ret
        exact ⟨_, rfl, by rw [HE.out]; simp; constructor <;> intro h <;> omega, HW.out⟩
end Go.Proofs.YtjogfagjcpcihaaGreatDoor
namespace Go.Proofs.YtjogfagjcpcihaaGreatDoor
open Go Go.RowKit
end Go.Proofs.YtjogfagjcpcihaaGreatDoor
namespace Go.Proofs.YtjogfagjcpcihaaGreatDoor
open Go Go.RowKit Go.ChangeShapes Go.WideShapes Go.Deep
theorem cells5 : Tryz.prog.cellsOf 5 = 1 := by kernel_rfl
set_option maxRecDepth 100000 in
theorem open_code {H : Type} {enc : TypeId × Value → H} {W : World} {base : Nat} {v1 : Value} {d1 : DataW H} {p1 : List MemPlace} (hval : Value.okWide Tryz.prog W .any base 22 v1) (h1 : DataW.Trod enc Tryz.prog W 0 (fun _ => true) true 22 v1 d1 p1) :
    ∃ oa len cap, v1 = .slice oa len cap ∧ HoldsBytes W oa len ∧ len ≤ cap := by
  obtain ⟨a1, len, cap, rfl⟩ := okWide_slice Tryz.underlying22 hval
  obtain ⟨fuel, hf⟩ := h1
  rcases open_ints Tryz.underlying22 Tryz.underlying5 cells5 hf with ⟨hcs, hx⟩ | ⟨a, len', cap', zs, hcs, _, hl, hm, hz, hx, hcell, hwz⟩
  · simp [Value.cells] at hcs
    obtain ⟨rfl, rfl, rfl⟩ := hcs
    exact ⟨none, 0, 0, rfl, .inl rfl, Nat.le_refl _⟩
  · simp [Value.cells] at hcs
    obtain ⟨rfl, rfl, rfl⟩ := hcs
    simp only [if_true] at hz
    refine ⟨some a, len, cap, rfl, ?_, hl⟩
    by_cases h0 : len = 0
    · exact .inl h0
    · obtain ⟨ab, ao, spot⟩ := a
      have hspot : spot = none := by simpa [Addr.add] using World.cell?_spot (hcell 0 (by omega))
      subst hspot
      have c0 := hcell 0 (by omega)
      refine .inr ⟨ab, ao, rfl, ?_, fun j hj => ?_⟩
      · rw [Addr.add_lit] at c0
        exact World.block_lt_of_cell? _ _ c0
      · have hcj := hcell j (by omega)
        rw [Addr.add_lit] at hcj
        have hb := range_u8 hwz j
        rw [← List.getD_eq_getElem?_getD] at hb
        obtain ⟨z, hz'⟩ : ∃ z, zs.getD j 0 = z := ⟨_, rfl⟩
        rw [hz'] at hb hcj
        have hzz : ((z.toNat : Nat) : Int) = z := Int.toNat_of_nonneg hb.1
        exact ⟨z.toNat, by omega, by rw [hcj, hzz]⟩
end Go.Proofs.YtjogfagjcpcihaaGreatDoor
