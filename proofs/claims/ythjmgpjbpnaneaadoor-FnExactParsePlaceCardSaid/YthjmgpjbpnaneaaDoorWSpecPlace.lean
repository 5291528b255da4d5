/-
  The walk of spec.ParsePlace: at every text of at most 2^20 bytes it returns the place that the text tells, and whether it tells one; what was there before stays.
-/
import Derived.Test.YthjmgpjbpnaneaaDoorWNum
import Derived.Test.YthjmgpjbpnaneaaDoorWCut
namespace Go.Proofs.YthjmgpjbpnaneaaDoor
open Go Go.RowKit Sg
/-- Whether a text tells a place, and which. -/
def placeOf (l : List UInt8) : Bool × Int × Int :=
  match parts 46 l with
  | [a, b] => if canonB a && canonB b then (true, (valF 0 a : Int), (valF 0 b : Int)) else (false, 0, 0)
  | _ => (false, 0, 0)
theorem l13Cut_46 (s : ByteArray) (w : World) (hs : s.size ≤ 1048576) :
    Calls Tryd.prog 75 #[.string s, .int .u8 46] w fun e w' => ∃ v, e = .returned v ∧ w'.ownsRow w.heap.size 9 1 v (parts 46 s.data.toList).length ((parts 46 s.data.toList).map strV) ∧ Below w.heap.size w w' :=
  l13Cut_any s 46 w hs
/-- A slice of its own, opened. -/
theorem row_open {w : World} {B : Nat} {v : Value} {ps : List (List UInt8)} (h : w.ownsRow B 9 1 v ps.length (ps.map strV)) (hne : ps ≠ []) :
    ∃ g cap, v = .slice (some ⟨g, 0, none⟩) ps.length cap ∧ B ≤ g ∧ g < w.heap.size ∧ ps.length ≤ cap ∧ ∀ j p, ps[j]? = some p → w.cell? ⟨g, j, none⟩ = some (strV p) := by
  have hlt := h.lt
  have hcells := fun g hg => h.cells (g := g) hg
  obtain ⟨hl, h | ⟨g, cap, cur, hv, hg, hh, hn, hm, hc, ht⟩⟩ := h
  · exact absurd (List.length_eq_zero_iff.1 h.2) hne
  · subst hv
    refine ⟨g, cap, rfl, hg, (hlt g rfl).2, hn, fun j p hp => ?_⟩
    have := hcells g rfl j (strV p) (by rw [List.getElem?_map, hp]; rfl)
    cases j <;> simpa [Addr.add] using this
theorem l13Num_list (p : List UInt8) (w : World) (hs : p.length ≤ 1048576) :
    Calls Tryd.prog 76 #[.string ⟨p.toArray⟩] w fun e w' => e = .returned (.tuple #[.int .i64 (numI p), .bool (numB p)]) ∧ w' = w := by
  have := l13Num_any ⟨p.toArray⟩ w (by change p.toArray.size ≤ _; rw [List.size_toArray]; unfold maxLen; omega)
  simpa using this
theorem parts_len (c : UInt8) : ∀ (l p : List UInt8), p ∈ parts c l → p.length ≤ l.length
  | [], p, h => by simp [parts] at h; simp [h]
  | b :: r, p, h => by
    by_cases hb : b = c
    · subst hb
      rw [parts_eq, List.mem_cons] at h
      rcases h with rfl | h
      · simp
      · have := parts_len _ r p h; simp; omega
    · rw [parts_neq hb] at h
      have ih := fun q hq => parts_len c r q hq
      cases hq : parts c r with
      | nil => exact absurd hq (parts_ne c r)
      | cons q qs =>
        rw [hq] at h ih
        simp only [glue, List.mem_cons] at h
        rcases h with rfl | h
        · have := ih q (by simp); simp; omega
        · have := ih p (by simp [h]); simp; omega
theorem place_end {l : List UInt8} {ok : Bool} {a b : Int} (h : placeOf l = (ok, a, b)) :
    Ending.returned (.tuple #[.agg #[.int .i64 a, .int .i64 b], .bool ok]) = Ending.returned (.tuple #[.agg #[.int .i64 (placeOf l).2.1, .int .i64 (placeOf l).2.2], .bool (placeOf l).1]) := by rw [h]
theorem place_two {l p q : List UInt8} (h : parts 46 l = [p, q]) : placeOf l = if canonB p && canonB q then (true, (valF 0 p : Int), (valF 0 q : Int)) else (false, 0, 0) := by
  unfold placeOf; rw [h]
theorem place_not {l : List UInt8} {ps : List (List UInt8)} (h : parts 46 l = ps) (h2 : ps.length ≠ 2) : placeOf l = (false, 0, 0) := by
  unfold placeOf; rw [h]
  match ps, h2 with
  | [], _ => rfl
  | [_], _ => rfl
  | [_, _], h2 => exact absurd rfl h2
  | _ :: _ :: _ :: _, _ => rfl
set_option maxRecDepth 100000 in
set_option maxHeartbeats 1600000 in
theorem specPlace_any (s : ByteArray) (w : World) (hs : s.size ≤ 1048576) :
    Calls Tryd.prog 35 #[.string s] w fun e w' => e = .returned (.tuple #[.agg #[.int .i64 (placeOf s.data.toList).2.1, .int .i64 (placeOf s.data.toList).2.2], .bool (placeOf s.data.toList).1]) ∧ Below w.heap.size w w' := by
  have HS := Lib.hid hs
  have hs2 : s.size < 2 ^ 62 := by omega
  clear hs
  go_enter Tryd.func35, Tryd.ntmps35
  go_wp2_with fail
  refine (l13Cut_46 s _ HS.out).mono ?_
  rintro e w1 ⟨v, rfl, hown, hb⟩
  obtain ⟨ps, hps⟩ : ∃ ps, parts 46 s.data.toList = ps := ⟨_, rfl⟩
  rw [hps] at hown
  have hne : ps ≠ [] := by rw [← hps]; exact parts_ne _ _
  have HP := Lib.hid hps
  clear hps
  obtain ⟨g, cap, rfl, hg, hgs, hcap, hcell⟩ := row_open hown hne
  have hc0 : w1.cell? ⟨w.heap.size, 0, none⟩ = some (.int .i64 0) := (hb.cell (by simp)).trans (by simp)
  have hc1 : w1.cell? ⟨w.heap.size, 1, none⟩ = some (.int .i64 0) := (hb.cell (by simp)).trans (by simp)
  have hf0 : w1.frozen? ⟨w.heap.size, 0, none⟩ = false := (hb.frozen (by simp)).trans (by simp)
  have hf1 : w1.frozen? ⟨w.heap.size, 1, none⟩ = false := (hb.frozen (by simp)).trans (by simp)
  have hz : w.heap.size < w1.heap.size := by have := hb.size; simp at this; omega
  have hB := Lib.hid (((Below.refl _ w).alloc (Nat.le_refl _) _).trans (hb.mono (by simp)))
  by_cases h2 : ps.length = 2
  · match ps, h2 with
    | [p, q], _ =>
      have g0 : w1.cell? ⟨g, 0, none⟩ = some (.string ⟨p.toArray⟩) := hcell 0 p rfl
      have g1 : w1.cell? ⟨g, 1, none⟩ = some (.string ⟨q.toArray⟩) := hcell 1 q rfl
      have hp : p.length ≤ 1048576 := Nat.le_trans (parts_len 46 _ p (by rw [HP.out]; simp)) (by rw [Array.length_toList]; exact HS.out)
      have hq : q.length ≤ 1048576 := Nat.le_trans (parts_len 46 _ q (by rw [HP.out]; simp)) (by rw [Array.length_toList]; exact HS.out)
      have hw := numB_canon p
      have hw2 := numB_canon q
      obtain ⟨pa, hpa⟩ : ∃ a, numI p = a := ⟨_, rfl⟩
      obtain ⟨pb, hpb⟩ : ∃ a, numB p = a := ⟨_, rfl⟩
      obtain ⟨qa, hqa⟩ : ∃ a, numI q = a := ⟨_, rfl⟩
      obtain ⟨qb, hqb⟩ : ∃ a, numB q = a := ⟨_, rfl⟩
      have HP1 := Lib.hid hp
      have HQ1 := Lib.hid hq
      have HC1 := Lib.hid hw
      have HC2 := Lib.hid hw2
      have HPA := Lib.hid hpa
      have HPB := Lib.hid hpb
      have HQA := Lib.hid hqa
      have HQB := Lib.hid hqb
      clear hcell hown hw hw2 hpa hpb hqa hqb hp hq
      go_wp2_with fail
      refine (l13Num_list p _ HP1.out).mono ?_
      rintro e w2 ⟨rfl, rfl⟩
      rw [HPA.out, HPB.out]
      go_wp2_with fail
      refine (l13Num_list q _ HQ1.out).mono ?_
      rintro e w3 ⟨rfl, rfl⟩
      rw [HQA.out, HQB.out]
      have hpl := place_two HP.out
      rw [← numB_canon p, ← numB_canon q, HPA.out, HPB.out, HQA.out, HQB.out] at hpl
      by_cases hok : pb = true ∧ qb = true ∧ 0 ≤ pa ∧ 0 ≤ qa
      · obtain ⟨rfl, rfl, k1, k2⟩ := hok
        have e1 : (valF 0 p : Int) = pa := by rw [← HPA.out]; exact (numI_canon (by rw [← numB_canon p, HPA.out, HPB.out]; simp [k1])).symm
        have e2 : (valF 0 q : Int) = qa := by rw [← HQA.out]; exact (numI_canon (by rw [← numB_canon q, HQA.out, HQB.out]; simp [k2])).symm
        rw [e1, e2] at hpl
        have hf : placeOf s.data.toList = (true, pa, qa) := hpl.trans (by simp [k1, k2])
        have HF := Lib.hid hf
        clear hpl e1 e2 hf
        go_wp2
        refine bodyPost_ret (v := .tuple #[.agg #[.int .i64 pa, .int .i64 qa], .bool true]) (by simp [results, Tryd.results35, go_sem, hc0, hc1]) rfl ⟨place_end HF.out, ?_⟩
        exact (hB.out.setCell (Nat.le_refl _) _).setCell (Nat.le_refl _) _
      · have HF := Lib.hid (hpl.trans (if_neg (by intro h; apply hok; simp only [Bool.and_eq_true, decide_eq_true_eq] at h; exact ⟨h.1.1, h.2.1, h.1.2, h.2.2⟩)))
        clear hpl
        cases pb
        · go_wp2
          refine bodyPost_ret (v := .tuple #[.agg #[.int .i64 0, .int .i64 0], .bool false]) (by simp [results, Tryd.results35, go_sem, hc0, hc1]) rfl ⟨place_end HF.out, ?_⟩
          exact (hB.out.setCell (Nat.le_refl _) _).setCell (Nat.le_refl _) _
        cases qb
        · go_wp2
          refine bodyPost_ret (v := .tuple #[.agg #[.int .i64 0, .int .i64 0], .bool false]) (by simp [results, Tryd.results35, go_sem, hc0, hc1]) rfl ⟨place_end HF.out, ?_⟩
          exact (hB.out.setCell (Nat.le_refl _) _).setCell (Nat.le_refl _) _
        by_cases k1 : pa < 0
        · go_wp2
          refine bodyPost_ret (v := .tuple #[.agg #[.int .i64 0, .int .i64 0], .bool false]) (by simp [results, Tryd.results35, go_sem, hc0, hc1]) rfl ⟨place_end HF.out, ?_⟩
          exact (hB.out.setCell (Nat.le_refl _) _).setCell (Nat.le_refl _) _
        have k1' : 0 ≤ pa := by omega
        have k2 : qa < 0 := by
          have h1 : ¬ (0 ≤ qa) := fun h => hok ⟨rfl, rfl, k1', h⟩
          omega
        clear hok
        go_wp2
        refine bodyPost_ret (v := .tuple #[.agg #[.int .i64 0, .int .i64 0], .bool false]) (by simp [results, Tryd.results35, go_sem, hc0, hc1]) rfl ⟨place_end HF.out, ?_⟩
        exact (hB.out.setCell (Nat.le_refl _) _).setCell (Nat.le_refl _) _
  · have h2' : (((ps.length : Nat) : Int) == 2) = false := by rw [beq_eq_false_iff_ne]; omega
    have HF := Lib.hid (place_not HP.out h2)
    go_wp2
    refine bodyPost_ret (v := .tuple #[.agg #[.int .i64 0, .int .i64 0], .bool false]) (by simp [results, Tryd.results35, go_sem, hc0, hc1]) rfl ⟨place_end HF.out, ?_⟩
    exact (hB.out.setCell (Nat.le_refl _) _).setCell (Nat.le_refl _) _
end Go.Proofs.YthjmgpjbpnaneaaDoor
