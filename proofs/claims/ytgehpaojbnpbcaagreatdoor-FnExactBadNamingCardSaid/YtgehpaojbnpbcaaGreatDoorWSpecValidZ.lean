/-
  The walks of spec's l1In, l1Name, l1Item and GraphValid: at every graph of at most 2^20 scopes, and items in each, GraphValid tells whether it is valid; only new memory is written.
-/
import Derived.Test.YtgehpaojbnpbcaaGreatDoorBaseZ
import Derived.Test.YtgehpaojbnpbcaaGreatDoorWEqZ
import Derived.Lib.Hide
import Derived.Outline
import Derived.Deep.DeepCutAuto
namespace Go.Proofs.YtgehpaojbnpbcaaGreatDoor
open Go Go.RowKit
theorem l1In_any (n lo hi : Int) (w : World) :
    Calls Tryz.prog 88 #[.int .i64 n, .int .i64 lo, .int .i64 hi] w fun e w' => e = .returned (.bool (inB n lo hi)) ∧ w' = w := by
  by_cases h1 : lo ≤ n
  · by_cases h2 : n ≤ hi
    · have H : Hid (inB n lo hi = true) := Lib.hid (by simp [inB, h1, h2])
      go_enter Tryz.func88, Tryz.ntmps88
      go_wp2
      go_ret
      exact ⟨by rw [H.out]; rfl, rfl⟩
    · have H : Hid (inB n lo hi = false) := Lib.hid (by simp [inB, h2])
      go_enter Tryz.func88, Tryz.ntmps88
      go_wp2
      go_ret
      exact ⟨by rw [H.out]; rfl, rfl⟩
  · have H : Hid (inB n lo hi = false) := Lib.hid (by simp [inB, h1])
    go_enter Tryz.func88, Tryz.ntmps88
    go_wp2
    go_ret
    exact ⟨by rw [H.out]; rfl, rfl⟩
theorem nameB_one {s : ByteArray} (h : s.size = 1) (h0 : 0 < s.size) : nameB s = inB (((s[0]'h0).toNat : Nat) : Int) 97 122 := by
  have hl : s.data.toList.length = 1 := by rw [Array.length_toList]; exact h
  obtain ⟨b, hb⟩ := List.length_eq_one_iff.1 hl
  have : s[0]'h0 = b := by
    have e : s[0]'h0 = s.data.toList[0]'(by omega) := rfl
    rw [e]; simp [hb]
  unfold nameB
  rw [hb, this]
theorem nameB_not {s : ByteArray} (h : s.size ≠ 1) : nameB s = false := by
  have hl : s.data.toList.length ≠ 1 := by rw [Array.length_toList]; exact h
  unfold nameB
  match s.data.toList, hl with
  | [], _ => rfl
  | [_], h => exact absurd rfl h
  | _ :: _ :: _, _ => rfl
theorem l1Name_any (s : ByteArray) (w : World) :
    Calls Tryz.prog 123 #[.string s] w fun e w' => e = .returned (.bool (nameB s)) ∧ w' = w := by
  by_cases h : s.size = 1
  · have h0 : 0 < s.size := by omega
    have H := Lib.hid (nameB_one h h0)
    have hbd : (((s[0]'h0).toNat : Nat) : Int) < 256 := by have := (s[0]'h0).toNat_lt; omega
    have h1 : (((s.size : Nat) : Int) == 1) = true := by rw [beq_iff_eq]; omega
    clear h
    go_enter Tryz.func123, Tryz.ntmps123
    go_wp2_with fail
    refine (l1In_any _ _ _ _).mono ?_
    rintro e w' ⟨rfl, rfl⟩
    rw [← H.out]
    generalize hq : nameB s = b
    have HQ := Lib.hid hq
    clear hq
    cases b
    · go_wp2
      go_ret
      exact ⟨by rw [HQ.out]; rfl, rfl⟩
    · go_wp2
      go_ret
      exact ⟨by rw [HQ.out]; rfl, rfl⟩
  · have H := Lib.hid (nameB_not h)
    have h1 : (((s.size : Nat) : Int) == 1) = false := by rw [beq_eq_false_iff_ne]; omega
    clear h
    go_enter Tryz.func123, Tryz.ntmps123
    go_wp2
    go_ret
    exact ⟨by rw [H.out]; rfl, rfl⟩
set_option maxRecDepth 100000 in
theorem l1Item_any (x : It) (w : World) :
    Calls Tryz.prog 109 #[.agg #[.int .i64 x.kind, .string x.name, .int .i64 x.scope]] w fun e w' => e = .returned (.bool (itemB x)) ∧ Below w.heap.size w w' := by
  obtain ⟨kd, nm, sc⟩ := x
  have HB := Lib.hid ((Below.refl _ w).alloc (Nat.le_refl _) (.cells #[.int .i64 kd, .string nm, .int .i64 sc] 137))
  have C1 := Lib.hid (fun w => l1Name_any nm w)
  have HI : Hid (itemB ⟨kd, nm, sc⟩ = (nameB nm && inB kd 1 3 && (sc == -1 || kd == 1))) := Lib.hid rfl
  generalize nameB nm = b1 at C1 HI
  go_enter Tryz.func109, Tryz.ntmps109
  go_wp2_with fail
  refine (C1.out _).mono ?_
  rintro e w1 ⟨rfl, rfl⟩
  cases b1
  · go_wp2
    go_ret
    exact ⟨by rw [HI.out]; rfl, HB.out⟩
  go_wp2_with fail
  refine (l1In_any _ _ _ _).mono ?_
  rintro e w1 ⟨rfl, rfl⟩
  generalize inB kd 1 3 = b2 at HI
  cases b2
  · go_wp2
    go_ret
    exact ⟨by rw [HI.out]; rfl, HB.out⟩
  by_cases h1 : (sc == -1) = true
  · go_wp2
    go_ret
    exact ⟨by rw [HI.out, h1]; rfl, HB.out⟩
  · have h1' : (sc == -1) = false := by simpa using h1
    clear h1
    by_cases h2 : (kd == 1) = true
    · go_wp2
      go_ret
      exact ⟨by rw [HI.out, h1', h2]; rfl, HB.out⟩
    · have h2' : (kd == 1) = false := by simpa using h2
      clear h2
      go_wp2
      go_ret
      exact ⟨by rw [HI.out, h1', h2']; rfl, HB.out⟩
/-- The array of which scopes are modules'. -/
def modRow (n : Nat) (taken : List Int) : List Value := (List.range n).map fun (i : Nat) => Value.bool (decide (((i : Nat) : Int) ∈ taken))
theorem modRow_at {n : Nat} {taken : List Int} {i : Nat} (h : i < n) : (modRow n taken)[i]? = some (.bool (decide ((i : Int) ∈ taken))) := by
  simp [modRow, h]
theorem modRow_set {n : Nat} {taken : List Int} {i : Nat} (h : i < n) : (modRow n taken).set i (.bool true) = modRow n (taken ++ [(i : Int)]) := by
  apply List.ext_getElem?
  intro j
  by_cases hj : j < n
  · by_cases he : i = j
    · subst he
      rw [List.getElem?_set_self (by simp [modRow, h]), modRow_at h]; simp
    · rw [List.getElem?_set_ne he, modRow_at hj, modRow_at hj]
      congr 2
      simp
      omega
  · rw [List.getElem?_eq_none (by simp [modRow]; omega), List.getElem?_eq_none (by simp [modRow]; omega)]
theorem graph_cell (w : World) (oa : Option Addr) (n cap : Nat) : (w.alloc (.cells #[.slice oa n cap] 28)).cell? ⟨w.heap.size, 0, none⟩ = some (.slice oa n cap) := by simp
theorem graph_below {w w1 : World} {oa : Option Addr} {n cap : Nat} (h : (w.alloc (.cells #[.slice oa n cap] 28)).grownBy w1 none) : Below (w.heap.size + 1) (w.alloc (.cells #[.slice oa n cap] 28)) w1 :=
  (Below.refl _ _).grown h (by simp) (fun k h => by cases h)
theorem graph_box {w w1 : World} {oa : Option Addr} {n cap : Nat} (h : (w.alloc (.cells #[.slice oa n cap] 28)).grownBy w1 none) : w1.cell? ⟨w.heap.size, 0, none⟩ = some (.slice oa n cap) :=
  ((graph_below h).cell (p := ⟨w.heap.size, 0, none⟩) (by simp)).trans (graph_cell w oa n cap)
theorem modRow_nil (n : Nat) : modRow n [] = List.replicate n (.bool false) := by
  apply List.ext_getElem?
  intro i
  by_cases h : i < n
  · rw [modRow_at h]; simp [h]
  · rw [List.getElem?_eq_none (by simp [modRow]; omega), List.getElem?_eq_none (by simp; omega)]
theorem mods_made {w1 : World} {B g n : Nat} (h : w1.ownsRow B 4 1 (.slice (some ⟨g, 0, none⟩) n n) n (madeCells (Value.bool false).cells (n * 1)).toList) : Row w1 g 4 (modRow n (modsOf (([] : List (Nat × It)).map Prod.snd))) := by
  have := Row.of_owns h rfl
  have e : (madeCells (Value.bool false).cells (n * 1)).toList = modRow n (modsOf (([] : List (Nat × It)).map Prod.snd)) := by
    show _ = modRow n []
    rw [modRow_nil, Nat.mul_one]
    apply List.ext_getElem
    · rw [Array.length_toList, size_madeCells, List.length_replicate]
    · intro i h1 h2
      rw [List.getElem_replicate, Array.getElem_toList]
      simp [madeCells, Value.cells, Nat.mod_one]
  rw [← e]; exact this
theorem info4 : (Tryz.prog.info? 4).map (fun i => (i.zero, i.size, i.bytes)) = some (some (.bool false), 1, 1) := by kernel_rfl
set_option maxRecDepth 100000 in
set_option maxHeartbeats 4000000 in
theorem specValid_any (ss : List Sc) (oa : Option Addr) (cap : Nat) (w : World) (hf : FitsScopes ss) (hc : HoldsScopes w oa ss) :
    Calls Tryz.prog 84 #[.agg #[.slice oa ss.length cap]] w fun e w' => ∃ b : Bool, e = .returned (.bool b) ∧ (b = true ↔ Valid ss) ∧ Below w.heap.size w w' := by
  have HF := Lib.hid hf
  have hl := hf.1
  have hb0 := (Below.refl _ w).alloc (Nat.le_refl _) (.cells #[.slice oa ss.length cap] 28)
  have HC := Lib.hid (hc.below hb0 (Nat.le_refl _))
  have HB0 := Lib.hid hb0
  clear hf hc hb0
  obtain ⟨i0, hi, hz0, hz1, hz2⟩ := info_parts info4
  by_cases hcnt : 1 ≤ ss.length ∧ ss.length ≤ 6
  case neg =>
    have H : Hid (inB (ss.length : Int) 1 6 = false) := Lib.hid (by simp [inB]; omega)
    have HV : Hid (¬ Valid ss) := Lib.hid (fun h => hcnt h.count)
    clear hcnt
    go_enter Tryz.func84, Tryz.ntmps84
    go_wp2_with fail
    refine (l1In_any _ _ _ _).mono ?_
    rintro e w1 ⟨rfl, rfl⟩
    rw [H.out]
    go_wp2
    go_ret
    exact ⟨false, rfl, by simp [HV.out], HB0.out⟩
  obtain ⟨hc1, hc6⟩ := hcnt
  have H : Hid (inB (ss.length : Int) 1 6 = true) := Lib.hid (by simp [inB]; omega)
  go_enter Tryz.func84, Tryz.ntmps84
  go_wp2_with fail
  refine (l1In_any _ _ _ _).mono ?_
  rintro e w1 ⟨rfl, rfl⟩
  rw [H.out]
  go_wp2_with (at_make; refine wpList_make_full _ rfl _ _ 174 rfl (w.heap.size + 1) 4 i0 _ 1 Tryz.underlying174 hi hz0 hz1 .i64 .i64 _ _ ss.length rfl rfl rfl rfl (by rw [hz2]; omega) (by unfold maxLen; omega) (by simp) ?_; intro w1 hown hg1; have hcg := graph_box hg1)
  have hA1 := graph_below hg1
  have hrow0 := mods_made hown
  rw [World.size_alloc] at hrow0
  have hrow := hrow0
  clear hown hg1 hcg hrow0
  go_loopw [20] (fun i wr => ∃ k : Nat, i = .int .i64 k ∧ k ≤ ss.length ∧ Hid (∀ i s, i < k → ss[i]? = some s → scopeB i s = true) ∧ Hid (goodItems ss (upto ss k 0)) ∧ Row wr (w.heap.size + 1) 4 (modRow ss.length (modsOf ((upto ss k 0).map Prod.snd))) ∧ Below (w.heap.size + 1) (w.alloc (.cells #[.slice oa ss.length cap] 28)) wr) (fun i _ => ss.length - (intOf i).toNat)
  case atStart => exact ⟨0, rfl, Nat.zero_le _, Lib.hid (fun i s hi => absurd hi (Nat.not_lt_zero _)), Lib.hid (by rw [upto_start]; exact goodItems.nil ss), by rw [upto_start]; exact hrow, hA1⟩
  case round =>
    obtain ⟨k, rfl, hk, hsc, hgi, hr, hb⟩ := hrel
    clear hrow hA1
    have hcg := (hb.cell (p := ⟨w.heap.size, 0, none⟩) (by simp)).trans (graph_cell w oa ss.length cap)
    by_cases hlt : k < ss.length
    · obtain ⟨s, hs⟩ : ∃ s, ss[k]? = some s := ⟨_, List.getElem?_eq_getElem hlt⟩
      obtain ⟨b, off, rfl, hbs, hcells⟩ := HC.out.at (by omega)
      rw [World.size_alloc] at hbs
      obtain ⟨oi, ci, c0', c1', c2⟩ := hcells k s hs
      have c0 := (hb.cell (p := ⟨b, off + k * 2, none⟩) hbs).trans c0'
      have c1 := (hb.cell (p := ⟨b, off + k * 2 + 1, none⟩) hbs).trans c1'
      have HS := Lib.hid hs
      have HI := Lib.hid c2
      have HCE := Lib.hid hcells
      have hfit := HF.out.2 s (List.mem_of_getElem? hs)
      have hsl := hfit.1
      clear hs c2 hcells c0' c1' hfit
      have HSB : Hid (scopeB k s = (decide (s.items.length ≤ 5) && parentB k s.parent)) := Lib.hid rfl
      have hbW := hb.alloc (by have := hb.size; simp at this; omega) (.cells #[.int .i64 s.parent, .slice oi s.items.length ci] 67)
      go_upto_region 7 with (fail)
      go_cut [49] (fun s49 wx => s49 = .bool (!scopeB k s) ∧ wx = wr.alloc (.cells #[.int .i64 s.parent, .slice oi s.items.length ci] 67))
      case first =>
        clear hb hr hcg c0 c1 hbW
        by_cases h5 : s.items.length ≤ 5
        · have h5' : ((s.items.length : Nat) : Int) ≤ 5 := by omega
          have hd5 : decide ((5 : Int) < ((s.items.length : Nat) : Int)) = false := by simp; omega
          by_cases h0 : k = 0
          · subst h0
            by_cases hp : (s.parent == -1) = true
            · have HP : Hid ((!scopeB 0 s) = false) := Lib.hid (by rw [HSB.out]; simp [h5, parentB, hp])
              have HPE : Hid (s.parent = -1) := Lib.hid (by simpa using hp)
              go_wp2
              go_meet
              exact ⟨by rw [HP.out], by rw [HPE.out]⟩
            · have hp' : (s.parent == -1) = false := by simpa using hp
              have HP : Hid ((!scopeB 0 s) = true) := Lib.hid (by rw [HSB.out]; simp [h5, parentB, hp'])
              have hpn : ¬ s.parent = -1 := by simpa using hp'
              clear hp hp'
              go_wp2
              go_meet
              exact ⟨by rw [HP.out], rfl⟩
          · have h0' : (0 : Int) < (k : Int) := by omega
            have h0'' : (((k : Nat) : Int) == 0) = false := by rw [beq_eq_false_iff_ne]; omega
            have hd0 : decide ((0 : Int) < ((k : Nat) : Int)) = true := by simp; omega
            have HQ : Hid ((!scopeB k s) = !(inB s.parent 0 ((k : Int) - 1))) := Lib.hid (by rw [HSB.out]; simp [h5, parentB, h0])
            clear h0
            go_wp2_with fail
            refine (l1In_any _ _ _ _).mono ?_
            rintro e w2 ⟨rfl, rfl⟩
            generalize inB s.parent 0 ((k : Int) - 1) = q at HQ
            cases q
            · go_wp2
              go_meet
              exact ⟨by rw [HQ.out]; rfl, rfl⟩
            · go_wp2
              go_meet
              exact ⟨by rw [HQ.out]; rfl, rfl⟩
        · have h5' : (5 : Int) < ((s.items.length : Nat) : Int) := by omega
          have hd5 : decide ((5 : Int) < ((s.items.length : Nat) : Int)) = true := by simp; omega
          have HP : Hid ((!scopeB k s) = true) := Lib.hid (by rw [HSB.out]; simp [h5])
          go_wp2
          go_meet
          exact ⟨by rw [HP.out], rfl⟩
      case rest =>
        generalize hq : (!scopeB k s) = q at hcut
        obtain ⟨rfl, rfl⟩ := hcut
        cases q with
        | true =>
          have hsb : scopeB k s = false := by simpa using hq
          clear hq
          have HV : Hid (¬ Valid ss) := Lib.hid (fun h => by have := h.scopes k s HS.out; rw [hsb] at this; cases this)
          have HB := Lib.hid (HB0.out.trans (hbW.mono (by omega)))
          clear hsb hbW
          go_wp2
          go_ret
          exact ⟨false, rfl, by simp [HV.out], HB.out⟩
        | false =>
          have hsb : scopeB k s = true := by simpa using hq
          clear hq
          have HSK := Lib.hid hsb
          have hrW := hr.alloc (.cells #[.int .i64 s.parent, .slice oi s.items.length ci] 67)
          clear hsb hr hb hcg c0 c1
          obtain ⟨wo, rfl⟩ : ∃ wo : World, wo = wr := ⟨_, rfl⟩
          go_wp2
          go_loopw [53] (fun v wr => ∃ j : Nat, v = .int .i64 j ∧ j ≤ s.items.length ∧ Hid (goodItems ss (upto ss k j)) ∧ Row wr (w.heap.size + 1) 4 (modRow ss.length (modsOf ((upto ss k j).map Prod.snd))) ∧ Below (w.heap.size + 1) (w.alloc (.cells #[.slice (some ⟨b, off, none⟩) ss.length cap] 28)) wr) (fun v _ => s.items.length - (intOf v).toNat)
          case atStart => exact ⟨0, rfl, Nat.zero_le _, hgi, hrW, hbW⟩
          case round =>
            obtain ⟨j, rfl, hj, hgj, hr, hb⟩ := hrel
            clear hrW hbW
            have hcg := (hb.cell (p := ⟨w.heap.size, 0, none⟩) (by simp)).trans (graph_cell w (some ⟨b, off, none⟩) ss.length cap)
            by_cases hlt2 : j < s.items.length
            · obtain ⟨x, hx⟩ : ∃ x, s.items[j]? = some x := ⟨_, List.getElem?_eq_getElem hlt2⟩
              obtain ⟨b2, f2, rfl, hb2s, hitems⟩ := (HI.out.below hb (by simp)).at (by omega)
              obtain ⟨a0, a1, a2⟩ := hitems j x hx
              have HX := Lib.hid hx
              have HN := Lib.hid (upto_next HS.out hx)
              clear hx hitems
              have hsz : w.heap.size + 1 ≤ wr.heap.size := by have := hb.size; simp at this; omega
              have C := Lib.hid (l1Item_any x (wr.alloc (.cells #[.int .i64 x.kind, .string x.name, .int .i64 x.scope] 137)))
              have hbI := hb.alloc hsz (.cells #[.int .i64 x.kind, .string x.name, .int .i64 x.scope] 137)
              have hrI := hr.alloc (.cells #[.int .i64 x.kind, .string x.name, .int .i64 x.scope] 137)
              go_wp2_with fail
              refine C.out.mono ?_
              rintro e w2 ⟨rfl, hb2⟩
              have hbJ := hbI.trans (hb2.mono (by have := hbI.size; simp at this ⊢; omega))
              have hrJ := hrI.below hb2 (by simp; omega)
              have hcg2 := (hbJ.cell (p := ⟨w.heap.size, 0, none⟩) (by simp)).trans (graph_cell w (some ⟨b, off, none⟩) ss.length cap)
              have d2 : w2.cell? ⟨wr.heap.size, 2, none⟩ = some (.int .i64 x.scope) := (hb2.cell (by simp)).trans (by simp)
              clear hb2 hbI hrI hb hr hcg a0 a1 a2 C
              have HVX : Hid (Valid ss → itemB x = true ∧ modB ss k x = true ∧ (x.scope = -1 ∨ x.scope ∉ modsOf ((upto ss k j).map Prod.snd))) := Lib.hid (fun h => (by have := h.upto (j := j + 1) HS.out; rw [HN.out] at this; exact this.last))
              have HBF := Lib.hid (HB0.out.trans (hbJ.mono (by omega)))
              cases hib : itemB x with
              | false =>
                have HV : Hid (¬ Valid ss) := Lib.hid (fun h => by have := (HVX.out h).1; rw [hib] at this; cases this)
                clear hib
                go_wp2
                go_ret
                exact ⟨false, rfl, by simp [HV.out], HBF.out⟩
              | true =>
                have HIB := Lib.hid hib
                clear hib
                by_cases hm1 : x.scope = -1
                · have HNEW : Hid (goodItems ss (upto ss k (j + 1))) := Lib.hid (by rw [HN.out]; exact hgj.out.snoc HIB.out (by unfold modB; simp [hm1]) (.inl hm1))
                  have HR : Hid (Row w2 (w.heap.size + 1) 4 (modRow ss.length (modsOf ((upto ss k (j + 1)).map Prod.snd)))) := Lib.hid (by rw [HN.out, List.map_append, modsOf_append]; simp only [List.map_cons, List.map_nil, modsOf_one, if_pos hm1, List.append_nil]; exact hrJ)
                  clear hrJ
                  go_wp2
                  go_roundw
                  case rel => exact ⟨j + 1, by go_num, by omega, HNEW, HR.out, hbJ⟩
                  case measure => simp only [intOf]; omega
                · go_wp2_with fail
                  refine (l1In_any _ _ _ _).mono ?_
                  rintro e w3 ⟨rfl, rfl⟩
                  generalize hq : inB x.scope ((k : Int) + 1) ((ss.length : Int) - 1) = q
                  cases q with
                  | false =>
                    have HV : Hid (¬ Valid ss) := Lib.hid (fun h => by have := (HVX.out h).2.1; simp [modB, hm1, hq] at this)
                    clear hq
                    go_wp2
                    go_ret
                    exact ⟨false, rfl, by simp [HV.out], HBF.out⟩
                  | true =>
                    have hq' : (k : Int) + 1 ≤ x.scope ∧ x.scope ≤ (ss.length : Int) - 1 := by simpa [inB] using hq
                    obtain ⟨m, hm⟩ : ∃ m : Nat, x.scope = (m : Int) := ⟨x.scope.toNat, by omega⟩
                    have hmn : m < ss.length := by omega
                    have hmk : k < m := by omega
                    have HQ := Lib.hid hq
                    clear hq hq'
                    obtain ⟨s', hs'⟩ : ∃ s', ss[m]? = some s' := ⟨_, List.getElem?_eq_getElem hmn⟩
                    obtain ⟨oi', ci', e0', -, -⟩ := HCE.out m s' hs'
                    have e0 := (hbJ.cell (p := ⟨b, off + m * 2, none⟩) hbs).trans e0'
                    clear e0'
                    rw [hm] at d2
                    have HM := Lib.hid hm
                    have HM1 := Lib.hid hm1
                    have HS' := Lib.hid hs'
                    have HRJ : Hid (Row w3 (w.heap.size + 1) 4 (modRow ss.length (modsOf ((upto ss k j).map Prod.snd)))) := Lib.hid hrJ
                    clear hm hm1 hs' hrJ
                    have HT : Hid (x.scope ∈ modsOf ((upto ss k j).map Prod.snd) ↔ (m : Int) ∈ modsOf ((upto ss k j).map Prod.snd)) := Lib.hid (by rw [HM.out])
                    have hmc := HRJ.out.cell (modRow_at (taken := modsOf ((upto ss k j).map Prod.snd)) hmn)
                    generalize hd : decide ((m : Int) ∈ modsOf ((upto ss k j).map Prod.snd)) = q at hmc
                    cases q with
                    | true =>
                      have HV : Hid (¬ Valid ss) := Lib.hid (fun h => by
                        rcases (HVX.out h).2.2 with h' | h'
                        · exact HM1.out h'
                        · exact h' (HT.out.2 (by simpa using hd)))
                      clear hd
                      go_wp2
                      go_ret
                      exact ⟨false, rfl, by simp [HV.out], HBF.out⟩
                    | false =>
                      have HD := Lib.hid hd
                      clear hd
                      by_cases hpk : s'.parent = (k : Int)
                      · have hpk' : (s'.parent == (k : Int)) = true := by simpa using hpk
                        rw [hpk] at e0
                        have HNEW : Hid (goodItems ss (upto ss k (j + 1))) := Lib.hid (by
                          rw [HN.out]
                          refine hgj.out.snoc HIB.out ?_ (.inr fun h => ?_)
                          · unfold modB
                            rw [HQ.out, HM.out]
                            simp [HS'.out, hpk]
                          · have := HD.out
                            simp at this
                            exact this (HT.out.1 h))
                        have HR : Hid (Row (w3.setCell ⟨w.heap.size + 1, m, none⟩ (.bool true)) (w.heap.size + 1) 4 (modRow ss.length (modsOf ((upto ss k (j + 1)).map Prod.snd)))) := Lib.hid (by
                          rw [HN.out, List.map_append, modsOf_append]; simp only [List.map_cons, List.map_nil, modsOf_one, if_neg HM1.out]
                          rw [HM.out, ← modRow_set hmn]; exact HRJ.out.set m (.bool true))
                        have HBS : Hid (Below (w.heap.size + 1) (w.alloc (.cells #[.slice (some ⟨b, off, none⟩) ss.length cap] 28)) (w3.setCell ⟨w.heap.size + 1, m, none⟩ (.bool true))) := Lib.hid (hbJ.setCell (Nat.le_refl _) _)
                        have hfz := HRJ.out.frozen m
                        clear hpk hpk'
                        go_wp2
                        go_roundw
                        case rel => exact ⟨j + 1, by go_num, by omega, HNEW, HR.out, HBS.out⟩
                        case measure => simp only [intOf]; omega
                      · have HV : Hid (¬ Valid ss) := Lib.hid (fun h => by
                          have := (HVX.out h).2.1
                          unfold modB at this
                          rw [HQ.out, HM.out] at this
                          have h0 : ((m : Int) == -1) = false := by rw [beq_eq_false_iff_ne]; omega
                          simp only [h0, Int.toNat_natCast, HS'.out, Option.map_some, Bool.false_or, Bool.true_and, beq_iff_eq, Option.some.injEq] at this
                          exact hpk this)
                        go_wp2
                        go_ret
                        exact ⟨false, rfl, by simp [HV.out], HBF.out⟩
            · obtain rfl : j = s.items.length := by omega
              rw [upto_scope HS.out] at hr
              have HSC : Hid (∀ i s, i < k + 1 → ss[i]? = some s → scopeB i s = true) := Lib.hid (fun i t hi ht => by
                by_cases he : i = k
                · subst he
                  have e := HS.out.symm.trans ht
                  cases e
                  exact HSK.out
                · exact hsc.out i t (by omega) ht)
              have HGI : Hid (goodItems ss (upto ss (k + 1) 0)) := Lib.hid (by rw [← upto_scope HS.out]; exact hgj.out)
              have HRR := Lib.hid hr
              clear hr hsc hgi hgj
              go_wp2
              go_roundw
              case rel => exact ⟨k + 1, by go_num, by omega, HSC, HGI, HRR.out, hb⟩
              case measure => simp only [intOf]; omega
    · obtain rfl : k = ss.length := by omega
      have HV : Hid (Valid ss) := Lib.hid ⟨⟨hc1, hc6⟩, fun i s hs => hsc.out i s (List.getElem?_eq_some_iff.1 hs).1 hs, by rw [← upto_all]; exact hgi.out⟩
      have HB := Lib.hid (HB0.out.trans (hb.mono (by omega)))
      clear hsc hgi hr hb
      go_wp2
      go_ret
      exact ⟨true, rfl, by simp [HV.out], HB.out⟩
end Go.Proofs.YtgehpaojbnpbcaaGreatDoor
