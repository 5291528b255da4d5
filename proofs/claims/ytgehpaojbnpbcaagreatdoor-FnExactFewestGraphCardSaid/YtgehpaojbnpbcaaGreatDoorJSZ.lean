/-
  The first good naming with the fewest letters, and the naming in which each declaration has the first letter that is good so far. Plain facts. The walks of the given l10Asked, l10Search and FewestNames. Condition: the argument's memory holds the graph.
-/
import Derived.Test.YtgehpaojbnpbcaaGreatDoorJNZ
import Derived.Test.YtgehpaojbnpbcaaGreatDoorJQZ
import Derived.Test.YtgehpaojbnpbcaaGreatDoorJPZ
namespace Go.Proofs.YtgehpaojbnpbcaaGreatDoor
open Go Go.RowKit
/-- Of which graphs the fewest names are told. -/
def FewOk (ss : List Sc) : Prop := (Valid ss ∧ Clear ss) ∧ (dclP ss).length ≤ 7
def fewAt (ss : List Sc) (m : Nat) : Option (List Nat) := (rgL (dclP ss).length 0 m).find? fun l => decide (goodN ss l)
/-- What has been found with up to so many letters. -/
def fewUp (ss : List Sc) : Nat → Option (List Nat)
  | 0 => none
  | k + 1 => match fewUp ss k with
    | some l => some l
    | none => fewAt ss (k + 1)
theorem fewUp_go {ss : List Sc} {k : Nat} (h : fewUp ss k = none) : fewUp ss (k + 1) = fewAt ss (k + 1) := by
  show (match fewUp ss k with | some l => some l | none => fewAt ss (k + 1)) = _
  rw [h]
theorem fewUp_stay {ss : List Sc} {k : Nat} {l : List Nat} (h : fewUp ss k = some l) : ∀ {j : Nat}, k ≤ j → fewUp ss j = some l := by
  intro j hj
  induction j with
  | zero =>
    have : k = 0 := by omega
    rw [← this]; exact h
  | succ j ih =>
    by_cases hk : k = j + 1
    · rw [← hk]; exact h
    · show (match fewUp ss j with | some l => some l | none => fewAt ss (j + 1)) = _
      rw [ih (by omega)]
theorem fewAt_mem {ss : List Sc} {m : Nat} {l : List Nat} (h : fewAt ss m = some l) : l ∈ rgL (dclP ss).length 0 m ∧ goodN ss l := by
  unfold fewAt at h
  exact ⟨List.mem_of_find?_eq_some h, by simpa using List.find?_some h⟩
theorem fewUp_mem {ss : List Sc} : ∀ {k : Nat} {l : List Nat}, fewUp ss k = some l → ∃ m, 1 ≤ m ∧ m ≤ k ∧ l ∈ rgL (dclP ss).length 0 m ∧ goodN ss l
  | 0, l, h => by cases h
  | k + 1, l, h => by
    cases hk : fewUp ss k with
    | some q =>
      rw [fewUp_stay hk (Nat.le_succ k)] at h
      cases h
      obtain ⟨m, h1, h2, h3⟩ := fewUp_mem hk
      exact ⟨m, h1, by omega, h3⟩
    | none =>
      rw [fewUp_go hk] at h
      exact ⟨k + 1, by omega, Nat.le_refl _, fewAt_mem h⟩
/-- There is one. -/
theorem fewUp_seven {ss : List Sc} (h : FewOk ss) : ∃ l, fewUp ss 7 = some l := by
  cases h7 : fewUp ss 7 with
  | some l => exact ⟨l, rfl⟩
  | none =>
    exfalso
    have hno : ∀ k, k < 7 → fewAt ss (k + 1) = none := by
      intro k hk
      cases hf : fewUp ss k with
      | some l => rw [fewUp_stay hf (by omega)] at h7; cases h7
      | none =>
        cases ha : fewAt ss (k + 1) with
        | none => rfl
        | some l =>
          have := fewUp_go hf
          rw [ha] at this
          rw [fewUp_stay this (by omega)] at h7
          cases h7
    have hg := good_own h.1 (by have := h.2; omega)
    obtain ⟨m, hm1, hm7, hmem⟩ : ∃ m, 1 ≤ m ∧ m ≤ 7 ∧ List.range (dclP ss).length ∈ rgL (dclP ss).length 0 m := by
      by_cases h0 : (dclP ss).length = 0
      · rw [h0]
        exact ⟨1, by omega, by omega, by simp [rgL]⟩
      · exact ⟨(dclP ss).length, by omega, h.2, rg_own h.2 (by omega)⟩
    have := hno (m - 1) (by omega)
    rw [show m - 1 + 1 = m by omega] at this
    unfold fewAt at this
    rw [List.find?_eq_none] at this
    exact this _ hmem (by simpa using hg)
theorem few_length {ss : List Sc} {k : Nat} {l : List Nat} (h : fewUp ss k = some l) : l.length = (dclP ss).length := by
  obtain ⟨m, _, _, h3, _⟩ := fewUp_mem h
  exact rgL_length _ _ _ _ h3
theorem few_lt {ss : List Sc} {k : Nat} {l : List Nat} (h : fewUp ss k = some l) : ∀ x ∈ l, x < k := by
  obtain ⟨m, _, h2, h3, _⟩ := fewUp_mem h
  exact fun x hx => Nat.lt_of_lt_of_le (rgL_lt _ _ _ _ h3 x hx) h2
/-- The answer: a text, and whether there is one. -/
def fewA (_ : List Sc) : Option (List Nat) → ByteArray × Bool
  | some l => (txtN l, true)
  | none => (⟨#[]⟩, false)
open Classical in
noncomputable def fewR (ss : List Sc) : ByteArray × Bool := if FewOk ss then fewA ss (fewUp ss 7) else (⟨#[]⟩, false)
/-- The search of the statement's side, begun with nothing. -/
theorem findG_nil (good : List Nat → Bool) (n used most : Nat) : findG good [] n used most = (rgL n used most).find? good := by
  unfold findG
  simp
theorem rgL_none (n : Nat) : rgL (n + 1) 0 0 = [] := by
  unfold rgL
  simp
end Go.Proofs.YtgehpaojbnpbcaaGreatDoor
namespace Go.Proofs.YtgehpaojbnpbcaaGreatDoor
open Go Go.RowKit Go.Sort
attribute [local go_sem] Oper.semAt_some
set_option maxRecDepth 100000 in
set_option maxHeartbeats 4000000 in
theorem l10Asked_any (ss : List Sc) (hF : Fair ss) (oa : Option Addr) (cap : Nat) (w : World) (hc : HoldsScopes w oa ss) :
    Calls Tryz.prog 51 #[.agg #[.slice oa ss.length cap]] w fun e w' => ∃ b : Bool, e = .returned (.bool b) ∧ (b = true ↔ FewOk ss) ∧ Below w.heap.size w w' := by
  have hb0 := (Below.refl w.heap.size w).alloc (Nat.le_refl _) (.cells #[.slice oa ss.length cap] 28)
  have R := Lib.hid (Row.new w [.slice oa ss.length cap] 28)
  have g1 := R.out.cell (i := 0) (v := .slice oa ss.length cap) (by rfl)
  have C := Lib.hid (l9Clear_any ss hF oa cap _ (hc.below hb0 (Nat.le_refl _)))
  have HB := Lib.hid hb0
  have HC := Lib.hid hc
  clear hb0 hc hF
  go_enter Tryz.func51, Tryz.ntmps51
  go_wp2_with fail
  refine C.out.mono ?_
  rintro e w1 ⟨b, rfl, hb, hb1⟩
  have HB1 := Lib.hid (HB.out.trans (hb1.mono HB.out.size))
  have HBV := Lib.hid hb
  have RG := Lib.hid (R.out.below hb1 R.out.lt)
  have g2 := RG.out.cell (i := 0) (v := .slice oa ss.length cap) (by rfl)
  clear g1 hb
  cases b
  · clear hb1
    go_wp2
    go_ret
    exact ⟨false, rfl, ⟨fun h => (by cases h), fun h => HBV.out.2 h.1⟩, HB1.out⟩
  · have hv := HBV.out.1 rfl
    have C2 := Lib.hid (l1Places_any ss hv.1.count.2 hv.1.five oa cap 1 _ (HC.out.below HB1.out (Nat.le_refl _)))
    have HV := Lib.hid hv
    clear hb1 hv
    go_wp2_with fail
    refine C2.out.mono ?_
    rintro e w2 ⟨vl, rfl, hl, hb2⟩
    rw [show plsP ss 1 = dclP ss from rfl] at hl
    obtain ⟨od, cd, rfl, -⟩ := argPlaces_of_owns hl
    have HB2 := Lib.hid (HB1.out.trans (hb2.mono HB1.out.size))
    clear hl hb2
    go_wp2
    go_ret
    exact ⟨_, rfl, by
      rw [decide_eq_true_iff]
      exact ⟨fun h => ⟨HV.out, by omega⟩, fun h => by have := h.2; omega⟩, HB2.out⟩
/-- What the search answers. -/
def SrR (o : Option (List Nat)) (t : ByteArray) (ok : Bool) : Prop := match o with
  | some l => t = txtN l ∧ ok = true
  | none => ok = false
theorem txtN_snoc (l : List Nat) (k : Nat) : txtN (l ++ [k]) = txtN l ++ ⟨#[UInt8.ofNat (97 + k)]⟩ := by
  apply ByteArray.ext
  apply Array.ext'
  rw [txtN_list]
  simp [txtN]
theorem letter_at : ∀ k : Nat, k < 26 → (⟨#[97, 98, 99, 100, 101, 102, 103, 104, 105, 106, 107, 108, 109, 110, 111, 112, 113, 114, 115, 116, 117, 118, 119, 120, 121, 122]⟩ : ByteArray).extract k (k + 1) = ⟨#[UInt8.ofNat (97 + k)]⟩ := by
  have e : ((List.range 26).all fun k => ((⟨#[97, 98, 99, 100, 101, 102, 103, 104, 105, 106, 107, 108, 109, 110, 111, 112, 113, 114, 115, 116, 117, 118, 119, 120, 121, 122]⟩ : ByteArray).extract k (k + 1)).data.toList == [UInt8.ofNat (97 + k)]) = true := by decide +kernel
  rw [List.all_eq_true] at e
  intro k hk
  have h1 := e k (List.mem_range.2 hk)
  exact ByteArray.ext (Array.ext' (by simpa using h1))
set_option maxRecDepth 100000 in
set_option maxHeartbeats 8000000 in
theorem l10Search_any (ss : List Sc) (hF : Fair ss) (hok : Valid ss ∧ Clear ss) (h7 : (dclP ss).length ≤ 7) (oa om : Option Addr) (cap cm most : Nat) (hm7 : most ≤ 7) : ∀ (n : Nat) (pre : List Nat) (used : Nat), n + pre.length = (dclP ss).length → used ≤ 7 → (∀ k ∈ pre, k < 7) → ∀ w : World, HoldsScopes w oa ss → HoldsInts w om (mntL ss (placed 0 ss)) →
    Calls Tryz.prog 53 #[.agg #[.slice oa ss.length cap], .slice om (mntL ss (placed 0 ss)).length cm, .int .i64 ((dclP ss).length : Int), .string (txtN pre), .int .i64 (used : Int), .int .i64 (most : Int)] w fun e w' => ∃ t ok, e = .returned (.tuple #[.string t, .bool ok]) ∧ SrR (findG (fun l => decide (goodN ss l)) pre n used most) t ok ∧ Below w.heap.size w w'
  | 0, pre, used, hn, hu, hp, w, hc, hm => by
    have hb0 := (Below.refl w.heap.size w).alloc (Nat.le_refl _) (.cells #[.slice oa ss.length cap] 28)
    have R := Lib.hid (Row.new w [.slice oa ss.length cap] 28)
    have g1 := R.out.cell (i := 0) (v := .slice oa ss.length cap) (by rfl)
    have hpl : pre.length = (dclP ss).length := by omega
    have hnm : nmgOk ss (txtN pre) := ⟨hok, by rw [← hpl]; exact txtN_naming fun k hk => by have := hp k hk; omega⟩
    have C := Lib.hid (l9Good_any ss hF oa om cap cm (txtN pre) hnm _ (hc.below hb0 (Nat.le_refl _)) (hm.below hb0))
    have HS : Hid (∀ ok, (ok = true ↔ goodN ss pre) → SrR (findG (fun l => decide (goodN ss l)) pre 0 used most) (txtN pre) ok) := Lib.hid (by
      intro ok hk
      rw [findG_zero]
      by_cases hg : goodN ss pre
      · rw [if_pos (decide_eq_true hg)]; exact ⟨rfl, hk.2 hg⟩
      · rw [if_neg (fun h => hg (of_decide_eq_true h))]
        cases ok
        · rfl
        · exact absurd (hk.1 rfl) hg)
    obtain ⟨q, hq⟩ : ∃ q, decide (chgA ss (nmgG ss (txtN pre)) = []) = q := ⟨_, rfl⟩
    have HQ : Hid (q = true ↔ goodN ss pre) := Lib.hid (by rw [← hq]; exact decide_eq_true_iff)
    rw [hq] at C
    clear hq
    have e1 : (((txtN pre).size : Int) == ((dclP ss).length : Int)) = true := by rw [txtN_size, hpl]; simp
    have HB := Lib.hid hb0
    clear hb0 hpl hnm hn hu hp hc hm
    generalize txtN pre = T at *
    generalize (mntL ss (placed 0 ss)).length = ml at *
    go_enter Tryz.func53, Tryz.ntmps53
    go_wp2_with fail
    refine C.out.mono ?_
    rintro e w1 ⟨rfl, hb1⟩
    have HB1 := Lib.hid (HB.out.trans (hb1.mono HB.out.size))
    clear hb1 g1
    go_wp2
    go_ret2
    exact ⟨_, _, rfl, HS.out _ HQ.out, HB1.out⟩
  | n + 1, pre, used, hn, hu, hp, w, hc, hm => by
    have hb0 := (Below.refl w.heap.size w).alloc (Nat.le_refl _) (.cells #[.slice oa ss.length cap] 28)
    have R := Lib.hid (Row.new w [.slice oa ss.length cap] 28)
    have hT : (txtN pre).size = pre.length := txtN_size pre
    have e1 : (((txtN pre).size : Int) == ((dclP ss).length : Int)) = false := by rw [hT, beq_eq_false_iff_ne]; omega
    have hTs : (txtN pre).size ≤ 7 := by rw [hT]; omega
    have HREC := Lib.hid (fun k (hk : k < 7) => l10Search_any ss hF hok h7 oa om cap cm most hm7 n (pre ++ [k]) (max used (k + 1)) (by rw [List.length_append, List.length_singleton]; omega) (by omega) (fun x hx => by
      rcases List.mem_append.1 hx with hx | hx
      · exact hp x hx
      · rw [List.mem_singleton] at hx; omega))
    obtain ⟨K, hK, hK7⟩ : ∃ K, min (used + 1) most = K ∧ K ≤ 7 := ⟨_, rfl, by omega⟩
    have HSU := Lib.hid (findG_succ (fun l => decide (goodN ss l)) pre n used most)
    rw [hK] at HSU
    have HN0 : Hid (findK (fun l => decide (goodN ss l)) pre n used most 0 = none) := Lib.hid rfl
    have HKS : Hid (∀ k, findK (fun l => decide (goodN ss l)) pre n used most k = none → findK (fun l => decide (goodN ss l)) pre n used most (k + 1) = findG (fun l => decide (goodN ss l)) (pre ++ [k]) n (max used (k + 1)) most) := Lib.hid (fun k h => by rw [findK, h])
    have HMORE : Hid (∀ k j t, findK (fun l => decide (goodN ss l)) pre n used most k = some t → k ≤ j → findK (fun l => decide (goodN ss l)) pre n used most j = some t) := Lib.hid (fun k j t h hj => by
      induction j with
      | zero =>
        have : k = 0 := by omega
        subst this
        exact h
      | succ j ih =>
        by_cases he : k = j + 1
        · subst he; exact h
        · rw [findK, ih (by omega)])
    have HTX : Hid (∀ k, txtN (pre ++ [k]) = txtN pre ++ ⟨#[UInt8.ofNat (97 + k)]⟩) := Lib.hid (txtN_snoc pre)
    have HLT := Lib.hid letter_at
    have HB := Lib.hid hb0
    have HC := Lib.hid hc
    have HM := Lib.hid hm
    have HUS := Lib.hid hu
    clear hb0 hn hu hp hc hm hT
    generalize txtN pre = T at *
    have hsz : (⟨#[97, 98, 99, 100, 101, 102, 103, 104, 105, 106, 107, 108, 109, 110, 111, 112, 113, 114, 115, 116, 117, 118, 119, 120, 121, 122]⟩ : ByteArray).size = 26 := by decide +kernel
    generalize (mntL ss (placed 0 ss)).length = ml at *
    go_enter Tryz.func53, Tryz.ntmps53
    generalize (⟨#[97, 98, 99, 100, 101, 102, 103, 104, 105, 106, 107, 108, 109, 110, 111, 112, 113, 114, 115, 116, 117, 118, 119, 120, 121, 122]⟩ : ByteArray) = LT at *
    have HSZ := Lib.hid hsz
    clear hsz
    have u1 : IntKind.i64.wrap ((used : Int) + 1) = (used : Int) + 1 := by have := HUS.out; rw [wrap_small _ (by omega) (by omega)]
    rcases Nat.lt_or_ge used most with hmin | hmin
    · have f1 : ¬ (most : Int) < (used : Int) + 1 := by omega
      have f2 : ¬ (most : Int) ≤ (used : Int) := by omega
      go_wp2
      go_loopw [30] (fun i wr => ∃ k : Nat, i = .int .i64 k ∧ k ≤ K ∧ Hid (findK (fun l => decide (goodN ss l)) pre n used most k = none) ∧ Hid (Below (w.alloc (.cells #[.slice oa ss.length cap] 28)).heap.size (w.alloc (.cells #[.slice oa ss.length cap] 28)) wr)) (fun i _ => K - (intOf i).toNat)
      case atStart => exact ⟨0, rfl, Nat.zero_le _, HN0, Lib.hid (Below.refl _ _)⟩
      case round =>
        obtain ⟨k, rfl, hk, HFK, HBR⟩ := hrel
        by_cases hlt : k < K
        · have c1 : (k : Int) < (used : Int) + 1 := by omega
          have c2 : (k : Int) ≤ (used : Int) := by omega
          have hk7 : k < 7 := by omega
          have hS0 := cell_drew ((R.out.below HBR.out R.out.lt).cell (i := 0) (v := .slice oa ss.length cap) (by rfl))
          have HD0 := Lib.hid ((Below.refl wr.heap.size wr).drew)
          have HLK := Lib.hid (HLT.out k (by omega))
          have k0 : (0 : Int) ≤ (k : Int) := by omega
          have k1 : (k : Int) ≤ (k : Int) + 1 := by omega
          have k2 : (k : Int) + 1 ≤ ((LT.size : Nat) : Int) := by have := HSZ.out; omega
          have k3 : IntKind.i64.wrap ((k : Int) + 1) = (k : Int) + 1 := by rw [wrap_small _ (by omega) (by omega)]
          have k5 : (((k : Int) + 1).toNat) = k + 1 := by omega
          have k6 : ¬ 9223372036854775807 < T.size + (min (k + 1) LT.size - k) := by omega
          go_wp2
          refine wp_region_kept (S := fun w' => w'.cell? ⟨w.heap.size, 0, none⟩ = some (.slice oa ss.length cap)) 19 (by kernel_rfl) ?_
          generalize wr.drew = v0 at *
          refine KeptAny.tk (v := ?_) 0 hS0 (fun w' hw' => ?_) ?_
          rotate_left
          · (go_simp; try with_reducible rfl)
          refine KeptAny.tk (v := ?_) 1 hS0 (fun w' hw' => ?_) ?_
          rotate_left
          · (go_simp; try with_reducible rfl)
          refine KeptAny.tk (v := ?_) 2 hS0 (fun w' hw' => ?_) ?_
          rotate_left
          · (go_simp; try with_reducible rfl)
          refine KeptAny.tk (v := ?_) 3 hS0 (fun w' hw' => ?_) ?_
          rotate_left
          · (go_simp; try with_reducible rfl)
          refine KeptAny.tk (v := ?_) 4 hS0 (fun w' hw' => ?_) ?_
          rotate_left
          · (go_simp; try with_reducible rfl)
          refine KeptAny.tk (v := ?_) 5 hS0 (fun w' hw' => ?_) ?_
          rotate_left
          · (go_simp; try with_reducible rfl)
          refine KeptAny.tk (v := ?_) 6 hS0 (fun w' hw' => ?_) ?_
          rotate_left
          · (go_simp; try with_reducible rfl)
          refine KeptAny.tk (v := ?_) 7 hS0 (fun w' hw' => ?_) ?_
          rotate_left
          · (go_simp; try with_reducible rfl)
          refine KeptAny.tk (v := ?_) 8 hS0 (fun w' hw' => ?_) ?_
          rotate_left
          · (go_simp; try with_reducible rfl)
          refine KeptAny.tk (v := ?_) 9 hS0 (fun w' hw' => ?_) ?_
          rotate_left
          · (go_simp; try with_reducible rfl)
          refine KeptAny.tk (v := ?_) 10 hS0 (fun w' hw' => ?_) ?_
          rotate_left
          · (go_simp; try with_reducible rfl)
          refine KeptAny.tk (v := ?_) 11 hS0 (fun w' hw' => ?_) ?_
          rotate_left
          · (go_simp; try with_reducible rfl)
          refine KeptAny.tk (v := .int .i64 ((max used (k + 1) : Nat) : Int)) 12 hS0 (fun w' hw' => ?_) ?_
          · (have hmx : (if (used : Int) < (k : Int) + 1 then (k : Int) + 1 else (used : Int)) = ((max used (k + 1) : Nat) : Int) := by split <;> omega
             go_simp
             first | done | (rw [hmx]) | (simp [hmx]) | trace_state)
          refine KeptAny.tk (v := ?_) 13 hS0 (fun w' hw' => ?_) ?_
          rotate_left
          · (go_simp; try with_reducible rfl)
          have HS0 := Lib.hid hS0
          clear hS0
          refine KeptAny.one (i := 14) (by kernel_rfl) rfl (by kernel_rfl) (fun KF hKF => ?_)
          go_simp
          refine ⟨trivial, ?_⟩
          rw [show T ++ LT.extract k (k + 1) = txtN (pre ++ [k]) from by rw [HTX.out, HLK.out]]
          have HBV := Lib.hid (HB.out.trans ((HBR.out.trans (HD0.out.mono HBR.out.size)).mono HB.out.size))
          refine ((callsIn_wide (n := 5)).2 (HREC.out k hk7 v0 (HC.out.below HBV.out (Nat.le_refl _)) (HM.out.below HBV.out))).mono ?_
          rintro e v1 ⟨tt, ok, rfl, hsr, hb1⟩
          have HSR := Lib.hid hsr
          have HB1 := Lib.hid (HBR.out.trans ((HD0.out.trans (hb1.mono HD0.out.size)).mono HBR.out.size))
          have hS0 := cell_grow hb1 HS0.out
          refine hKF.out _ _ hS0 (fun _ => ?_)
          clear hKF hsr hb1
          refine KeptAny.tk (v := ?_) 15 hS0 (fun w' hw' => ?_) ?_
          rotate_left
          · (go_simp; try with_reducible rfl)
          refine KeptAny.tk (v := ?_) 16 hS0 (fun w' hw' => ?_) ?_
          rotate_left
          · (go_simp; try with_reducible rfl)
          refine KeptAny.tk (v := ?_) 17 hS0 (fun w' hw' => ?_) ?_
          rotate_left
          · (go_simp; try with_reducible rfl)
          refine KeptAny.one (i := 18) (by kernel_rfl) rfl (by kernel_rfl) (fun KF hKF => ?_)
          go_simp
          refine hKF.out _ _ hS0 (fun _ => ?_)
          clear hKF
          refine KeptAny.last (by kernel_rfl) rfl (by kernel_rfl) (fun KF hKF => ?_)
          go_simp
          refine hKF.out _ _ ?_
          clear hKF hS0
          refine KeptAny.done (by kernel_rfl) ?_ _
          cases ok
          · have HF2 : Hid (findK (fun l => decide (goodN ss l)) pre n used most (k + 1) = none) := Lib.hid (by
              rw [HKS.out k HFK.out]
              have h := HSR.out
              cases hf : findG (fun l => decide (goodN ss l)) (pre ++ [k]) n (max used (k + 1)) most with
              | none => rfl
              | some l => rw [hf] at h; cases h.2)
            go_wp2
            go_roundw
            case rel => exact ⟨k + 1, by go_num, by omega, HF2, HB1⟩
            case measure => simp only [intOf]; omega
          · have HF2 : Hid (SrR (findG (fun l => decide (goodN ss l)) pre (n + 1) used most) tt true) := Lib.hid (by
              have h := HSR.out
              have h2 := HKS.out k HFK.out
              cases hf : findG (fun l => decide (goodN ss l)) (pre ++ [k]) n (max used (k + 1)) most with
              | none => rw [hf] at h; cases h
              | some l =>
                rw [hf] at h h2
                rw [HSU.out, HMORE.out (k + 1) K l h2 (by omega)]
                exact h)
            go_wp2
            go_ret2
            exact ⟨_, _, rfl, HF2.out, HB.out.trans (HB1.out.mono HB.out.size)⟩
        · obtain rfl : k = K := by omega
          have c1 : ¬ (k : Int) < (used : Int) + 1 := by omega
          have c2 : ¬ (k : Int) ≤ (used : Int) := by omega
          have HF2 : Hid (SrR (findG (fun l => decide (goodN ss l)) pre (n + 1) used most) ⟨#[]⟩ false) := Lib.hid (by rw [HSU.out, HFK.out]; rfl)
          go_wp2
          go_ret2
          first | exact ⟨_, _, rfl, HF2.out, HB.out.trans (HBR.out.mono HB.out.size)⟩ | exact ⟨_, .inl ⟨rfl, HF2.out, HB.out.trans (HBR.out.mono HB.out.size)⟩⟩
    · have f1 : (most : Int) < (used : Int) + 1 := by omega
      have f2 : (most : Int) ≤ (used : Int) := by omega
      go_wp2
      go_loopw [30] (fun i wr => ∃ k : Nat, i = .int .i64 k ∧ k ≤ K ∧ Hid (findK (fun l => decide (goodN ss l)) pre n used most k = none) ∧ Hid (Below (w.alloc (.cells #[.slice oa ss.length cap] 28)).heap.size (w.alloc (.cells #[.slice oa ss.length cap] 28)) wr)) (fun i _ => K - (intOf i).toNat)
      case atStart => exact ⟨0, rfl, Nat.zero_le _, HN0, Lib.hid (Below.refl _ _)⟩
      case round =>
        obtain ⟨k, rfl, hk, HFK, HBR⟩ := hrel
        by_cases hlt : k < K
        · have c1 : (k : Int) < (most : Int) := by omega
          have hk7 : k < 7 := by omega
          have hS0 := cell_drew ((R.out.below HBR.out R.out.lt).cell (i := 0) (v := .slice oa ss.length cap) (by rfl))
          have HD0 := Lib.hid ((Below.refl wr.heap.size wr).drew)
          have HLK := Lib.hid (HLT.out k (by omega))
          have k0 : (0 : Int) ≤ (k : Int) := by omega
          have k1 : (k : Int) ≤ (k : Int) + 1 := by omega
          have k2 : (k : Int) + 1 ≤ ((LT.size : Nat) : Int) := by have := HSZ.out; omega
          have k3 : IntKind.i64.wrap ((k : Int) + 1) = (k : Int) + 1 := by rw [wrap_small _ (by omega) (by omega)]
          have k5 : (((k : Int) + 1).toNat) = k + 1 := by omega
          have k6 : ¬ 9223372036854775807 < T.size + (min (k + 1) LT.size - k) := by omega
          go_wp2
          refine wp_region_kept (S := fun w' => w'.cell? ⟨w.heap.size, 0, none⟩ = some (.slice oa ss.length cap)) 19 (by kernel_rfl) ?_
          generalize wr.drew = v0 at *
          refine KeptAny.tk (v := ?_) 0 hS0 (fun w' hw' => ?_) ?_
          rotate_left
          · (go_simp; try with_reducible rfl)
          refine KeptAny.tk (v := ?_) 1 hS0 (fun w' hw' => ?_) ?_
          rotate_left
          · (go_simp; try with_reducible rfl)
          refine KeptAny.tk (v := ?_) 2 hS0 (fun w' hw' => ?_) ?_
          rotate_left
          · (go_simp; try with_reducible rfl)
          refine KeptAny.tk (v := ?_) 3 hS0 (fun w' hw' => ?_) ?_
          rotate_left
          · (go_simp; try with_reducible rfl)
          refine KeptAny.tk (v := ?_) 4 hS0 (fun w' hw' => ?_) ?_
          rotate_left
          · (go_simp; try with_reducible rfl)
          refine KeptAny.tk (v := ?_) 5 hS0 (fun w' hw' => ?_) ?_
          rotate_left
          · (go_simp; try with_reducible rfl)
          refine KeptAny.tk (v := ?_) 6 hS0 (fun w' hw' => ?_) ?_
          rotate_left
          · (go_simp; try with_reducible rfl)
          refine KeptAny.tk (v := ?_) 7 hS0 (fun w' hw' => ?_) ?_
          rotate_left
          · (go_simp; try with_reducible rfl)
          refine KeptAny.tk (v := ?_) 8 hS0 (fun w' hw' => ?_) ?_
          rotate_left
          · (go_simp; try with_reducible rfl)
          refine KeptAny.tk (v := ?_) 9 hS0 (fun w' hw' => ?_) ?_
          rotate_left
          · (go_simp; try with_reducible rfl)
          refine KeptAny.tk (v := ?_) 10 hS0 (fun w' hw' => ?_) ?_
          rotate_left
          · (go_simp; try with_reducible rfl)
          refine KeptAny.tk (v := ?_) 11 hS0 (fun w' hw' => ?_) ?_
          rotate_left
          · (go_simp; try with_reducible rfl)
          refine KeptAny.tk (v := .int .i64 ((max used (k + 1) : Nat) : Int)) 12 hS0 (fun w' hw' => ?_) ?_
          · (have hmx : (if (used : Int) < (k : Int) + 1 then (k : Int) + 1 else (used : Int)) = ((max used (k + 1) : Nat) : Int) := by split <;> omega
             go_simp
             first | done | (rw [hmx]) | (simp [hmx]) | trace_state)
          refine KeptAny.tk (v := ?_) 13 hS0 (fun w' hw' => ?_) ?_
          rotate_left
          · (go_simp; try with_reducible rfl)
          have HS0 := Lib.hid hS0
          clear hS0
          refine KeptAny.one (i := 14) (by kernel_rfl) rfl (by kernel_rfl) (fun KF hKF => ?_)
          go_simp
          refine ⟨trivial, ?_⟩
          rw [show T ++ LT.extract k (k + 1) = txtN (pre ++ [k]) from by rw [HTX.out, HLK.out]]
          have HBV := Lib.hid (HB.out.trans ((HBR.out.trans (HD0.out.mono HBR.out.size)).mono HB.out.size))
          refine ((callsIn_wide (n := 5)).2 (HREC.out k hk7 v0 (HC.out.below HBV.out (Nat.le_refl _)) (HM.out.below HBV.out))).mono ?_
          rintro e v1 ⟨tt, ok, rfl, hsr, hb1⟩
          have HSR := Lib.hid hsr
          have HB1 := Lib.hid (HBR.out.trans ((HD0.out.trans (hb1.mono HD0.out.size)).mono HBR.out.size))
          have hS0 := cell_grow hb1 HS0.out
          refine hKF.out _ _ hS0 (fun _ => ?_)
          clear hKF hsr hb1
          refine KeptAny.tk (v := ?_) 15 hS0 (fun w' hw' => ?_) ?_
          rotate_left
          · (go_simp; try with_reducible rfl)
          refine KeptAny.tk (v := ?_) 16 hS0 (fun w' hw' => ?_) ?_
          rotate_left
          · (go_simp; try with_reducible rfl)
          refine KeptAny.tk (v := ?_) 17 hS0 (fun w' hw' => ?_) ?_
          rotate_left
          · (go_simp; try with_reducible rfl)
          refine KeptAny.one (i := 18) (by kernel_rfl) rfl (by kernel_rfl) (fun KF hKF => ?_)
          go_simp
          refine hKF.out _ _ hS0 (fun _ => ?_)
          clear hKF
          refine KeptAny.last (by kernel_rfl) rfl (by kernel_rfl) (fun KF hKF => ?_)
          go_simp
          refine hKF.out _ _ ?_
          clear hKF hS0
          refine KeptAny.done (by kernel_rfl) ?_ _
          cases ok
          · have HF2 : Hid (findK (fun l => decide (goodN ss l)) pre n used most (k + 1) = none) := Lib.hid (by
              rw [HKS.out k HFK.out]
              have h := HSR.out
              cases hf : findG (fun l => decide (goodN ss l)) (pre ++ [k]) n (max used (k + 1)) most with
              | none => rfl
              | some l => rw [hf] at h; cases h.2)
            go_wp2
            go_roundw
            case rel => exact ⟨k + 1, by go_num, by omega, HF2, HB1⟩
            case measure => simp only [intOf]; omega
          · have HF2 : Hid (SrR (findG (fun l => decide (goodN ss l)) pre (n + 1) used most) tt true) := Lib.hid (by
              have h := HSR.out
              have h2 := HKS.out k HFK.out
              cases hf : findG (fun l => decide (goodN ss l)) (pre ++ [k]) n (max used (k + 1)) most with
              | none => rw [hf] at h; cases h
              | some l =>
                rw [hf] at h h2
                rw [HSU.out, HMORE.out (k + 1) K l h2 (by omega)]
                exact h)
            go_wp2
            go_ret2
            exact ⟨_, _, rfl, HF2.out, HB.out.trans (HB1.out.mono HB.out.size)⟩
        · obtain rfl : k = K := by omega
          have c1 : ¬ (k : Int) < (most : Int) := by omega
          have HF2 : Hid (SrR (findG (fun l => decide (goodN ss l)) pre (n + 1) used most) ⟨#[]⟩ false) := Lib.hid (by rw [HSU.out, HFK.out]; rfl)
          go_wp2
          go_ret2
          first | exact ⟨_, _, rfl, HF2.out, HB.out.trans (HBR.out.mono HB.out.size)⟩ | exact ⟨_, .inl ⟨rfl, HF2.out, HB.out.trans (HBR.out.mono HB.out.size)⟩⟩
theorem fewAt_zero {ss : List Sc} {l : List Nat} (h : fewAt ss 0 = some l) : fewUp ss 7 = some l := by
  unfold fewAt at h
  cases hn : (dclP ss).length with
  | zero =>
    rw [hn] at h
    have h1 : fewAt ss 1 = some l := by
      unfold fewAt
      rw [hn]
      exact h
    exact fewUp_stay (k := 1) h1 (by omega)
  | succ n =>
    rw [hn, rgL_none] at h
    cases h
set_option maxRecDepth 100000 in
set_option maxHeartbeats 8000000 in
theorem specFewest_any (ss : List Sc) (hF : Fair ss) (oa : Option Addr) (cap : Nat) (w : World) (hc : HoldsScopes w oa ss) :
    Calls Tryz.prog 29 #[.agg #[.slice oa ss.length cap]] w fun e w' => e = .returned (.tuple #[.string (fewR ss).1, .bool (fewR ss).2]) ∧ Below w.heap.size w w' := by
  have hb0 := (Below.refl w.heap.size w).alloc (Nat.le_refl _) (.cells #[.slice oa ss.length cap] 28)
  have R := Lib.hid (Row.new w [.slice oa ss.length cap] 28)
  have g1 := R.out.cell (i := 0) (v := .slice oa ss.length cap) (by rfl)
  have C := Lib.hid (l10Asked_any ss hF oa cap _ (hc.below hb0 (Nat.le_refl _)))
  have HB := Lib.hid hb0
  have HC := Lib.hid hc
  have HF := Lib.hid hF
  clear hb0 hc hF
  go_enter Tryz.func29, Tryz.ntmps29
  go_wp2_with fail
  refine C.out.mono ?_
  rintro e w1 ⟨b, rfl, hb, hb1⟩
  have HB1 := Lib.hid (HB.out.trans (hb1.mono HB.out.size))
  have HBV := Lib.hid hb
  have RG := Lib.hid (R.out.below hb1 R.out.lt)
  have g2 := RG.out.cell (i := 0) (v := .slice oa ss.length cap) (by rfl)
  clear g1 hb hb1
  cases b
  · have HR : Hid (fewR ss = (⟨#[]⟩, false)) := Lib.hid (by unfold fewR; rw [if_neg fun h => by have := HBV.out.2 h; cases this])
    go_wp2
    go_ret2
    exact ⟨by rw [HR.out]; rfl, HB1.out⟩
  · have hok := HBV.out.1 rfl
    have HOK := Lib.hid hok
    have C2 := Lib.hid (l1Places_any ss hok.1.1.count.2 hok.1.1.five oa cap 1 _ (HC.out.below HB1.out (Nat.le_refl _)))
    clear hok
    go_wp2_with fail
    refine C2.out.mono ?_
    rintro e w2 ⟨vl, rfl, hl, hb2⟩
    rw [show plsP ss 1 = dclP ss from rfl] at hl
    obtain ⟨od, cd, rfl, -⟩ := argPlaces_of_owns hl
    have HB2 := Lib.hid (HB1.out.trans (hb2.mono HB1.out.size))
    have RG2 := Lib.hid (RG.out.below hb2 RG.out.lt)
    clear hl hb2 g2
    go_wp2
    go_loopw [14] (fun i wr => ∃ k : Nat, i = .int .i64 k ∧ k ≤ 8 ∧ Hid (fewUp ss (k - 1) = none) ∧ Hid (Below w2.heap.size w2 wr)) (fun i _ => 8 - (intOf i).toNat)
    case atStart => exact ⟨0, rfl, by omega, Lib.hid rfl, Lib.hid (Below.refl _ _)⟩
    case round =>
      obtain ⟨k, rfl, hk, HUP, HBR⟩ := hrel
      by_cases hlt : k < 8
      · have c1 : (k : Int) < 8 := by omega
        have hS0 := cell_drew ((RG2.out.below HBR.out RG2.out.lt).cell (i := 0) (v := .slice oa ss.length cap) (by rfl))
        have HD0 := Lib.hid ((Below.refl wr.heap.size wr).drew)
        have HS00 := Lib.hid hS0
        go_wp2
        refine wp_region_kept (S := fun w' => w'.cell? ⟨w.heap.size, 0, none⟩ = some (.slice oa ss.length cap)) 10 (by kernel_rfl) ?_
        generalize wr.drew = v0 at *
        refine KeptAny.tk (v := ?_) 0 hS0 (fun w' hw' => ?_) ?_
        rotate_left
        · (go_simp; try with_reducible rfl)
        refine KeptAny.tk (v := ?_) 1 hS0 (fun w' hw' => ?_) ?_
        rotate_left
        · (go_simp; try with_reducible rfl)
        refine KeptAny.tk (v := ?_) 3 hS0 (fun w' hw' => ?_) ?_
        rotate_left
        · (go_simp; try with_reducible rfl)
        refine KeptAny.tk (v := ?_) 4 hS0 (fun w' hw' => ?_) ?_
        rotate_left
        · (go_simp; try with_reducible rfl)
        clear hS0
        refine KeptAny.one (i := 2) (by kernel_rfl) rfl (by kernel_rfl) (fun KF hKF => ?_)
        go_simp
        refine ⟨trivial, ?_⟩
        have HBV0 := Lib.hid (HB2.out.trans ((HBR.out.trans (HD0.out.mono HBR.out.size)).mono HB2.out.size))
        refine ((callsIn_wide (n := 5)).2 (l9Meant_any ss HOK.out.1.1 HF.out.fits oa cap v0 (HC.out.below HBV0.out (Nat.le_refl _)))).mono ?_
        rintro e v1 ⟨vm, rfl, hm, hb1⟩
        obtain ⟨om, cm, rfl, hmi⟩ := ints_of_owns hm
        have HMI := Lib.hid hmi
        have HBV1 := Lib.hid (HBV0.out.trans (hb1.mono HBV0.out.size))
        have HX1 := Lib.hid (HBR.out.trans ((HD0.out.trans (hb1.mono HD0.out.size)).mono HBR.out.size))
        have hS1 := cell_grow hb1 HS00.out
        have HS1 := Lib.hid hS1
        refine hKF.out _ _ hS1 (fun _ => ?_)
        clear hKF hm hmi hb1 hS1
        have HN7 := Lib.hid HOK.out.2
        have HSE := Lib.hid (l10Search_any ss HF.out HOK.out.1 HN7.out oa om cap cm k (by omega) (dclP ss).length [] 0 (by simp) (by omega) (by simp) v1 (HC.out.below HBV1.out (Nat.le_refl _)) HMI.out)
        refine KeptAny.one (i := 5) (by kernel_rfl) rfl (by kernel_rfl) (fun KF hKF => ?_)
        go_simp
        refine ⟨trivial, ?_⟩
        refine ((callsIn_wide (n := 5)).2 HSE.out).mono ?_
        rintro e v2 ⟨tt, ok, rfl, hsr, hb2⟩
        rw [findG_nil] at hsr
        have HSR : Hid (SrR (fewAt ss k) tt ok) := Lib.hid hsr
        have HX2 := Lib.hid (HX1.out.trans (hb2.mono HX1.out.size))
        have hS0 := cell_grow hb2 HS1.out
        refine hKF.out _ _ hS0 (fun _ => ?_)
        clear hKF hsr hb2
        refine KeptAny.tk (v := ?_) 6 hS0 (fun w' hw' => ?_) ?_
        rotate_left
        · (go_simp; try with_reducible rfl)
        refine KeptAny.tk (v := ?_) 7 hS0 (fun w' hw' => ?_) ?_
        rotate_left
        · (go_simp; try with_reducible rfl)
        refine KeptAny.tk (v := ?_) 8 hS0 (fun w' hw' => ?_) ?_
        rotate_left
        · (go_simp; try with_reducible rfl)
        refine KeptAny.one (i := 9) (by kernel_rfl) rfl (by kernel_rfl) (fun KF hKF => ?_)
        go_simp
        refine hKF.out _ _ hS0 (fun _ => ?_)
        clear hKF
        refine KeptAny.last (by kernel_rfl) rfl (by kernel_rfl) (fun KF hKF => ?_)
        go_simp
        refine hKF.out _ _ ?_
        clear hKF hS0
        refine KeptAny.done (by kernel_rfl) ?_ _
        cases ok
        · have HF2 : Hid (fewUp ss (k + 1 - 1) = none) := Lib.hid (by
            rw [Nat.add_sub_cancel]
            have h := HSR.out
            have hn : fewAt ss k = none := by
              cases hf : fewAt ss k with
              | none => rfl
              | some l => rw [hf] at h; cases h.2
            cases k with
            | zero => rfl
            | succ k => exact (fewUp_go HUP.out).trans hn)
          go_wp2
          go_roundw
          case rel => exact ⟨k + 1, by go_num, by omega, HF2, HX2⟩
          case measure => simp only [intOf]; omega
        · have HF2 : Hid (fewR ss = (tt, true)) := Lib.hid (by
            have h := HSR.out
            cases hf : fewAt ss k with
            | none => rw [hf] at h; cases h
            | some l =>
              rw [hf] at h
              have h7 : fewUp ss 7 = some l := by
                cases k with
                | zero => exact fewAt_zero hf
                | succ k => exact fewUp_stay ((fewUp_go HUP.out).trans hf) (by omega)
              unfold fewR
              rw [if_pos HOK.out, h7, h.1]
              rfl)
          go_wp2
          go_ret2
          exact ⟨by rw [HF2.out]; rfl, HB2.out.trans (HX2.out.mono HB2.out.size)⟩
      · exfalso
        obtain rfl : k = 8 := by omega
        obtain ⟨l, hl⟩ := fewUp_seven HOK.out
        rw [HUP.out] at hl
        cases hl
end Go.Proofs.YtgehpaojbnpbcaaGreatDoor
