/-
  The walks of the given l6Remove, l6RawRemoveItem and RemoveItem. Condition: the argument's memory holds the graph.
-/
import Derived.Test.YtimcobenmgbciaaDoorJCZ
namespace Go.Proofs.YtimcobenmgbciaaDoor
open Go Go.RowKit
theorem holdsItems_take {w : World} {b off : Nat} {xs : List It} (h : HoldsItems w (some ⟨b, off, none⟩) xs) (k : Nat) : HoldsItems w (some ⟨b, off, none⟩) (xs.take k) := by
  rcases h with h | ⟨b', off', h1, h2, h3⟩
  · exact .inl (by rw [h]; simp)
  · cases h1
    exact .inr ⟨b, off, rfl, h2, fun i x hx => h3 i x (by rw [List.getElem?_take] at hx; split at hx <;> first | exact hx | cases hx)⟩
theorem holdsItems_drop {w : World} {b off : Nat} {xs : List It} (h : HoldsItems w (some ⟨b, off, none⟩) xs) (k : Nat) : HoldsItems w (some ⟨b, off + k * 3, none⟩) (xs.drop k) := by
  rcases h with h | ⟨b', off', h1, h2, h3⟩
  · exact .inl (by rw [h]; simp)
  · cases h1
    refine .inr ⟨b, off + k * 3, rfl, h2, fun i x hx => ?_⟩
    rw [List.getElem?_drop] at hx
    obtain ⟨q0, q1, q2⟩ := h3 (k + i) x hx
    rw [show off + k * 3 + i * 3 = off + (k + i) * 3 by omega]
    exact ⟨q0, q1, q2⟩
theorem OwnGr.rmv2 {w w1 : World} {B g cap i j : Nat} {ss : List Sc} {hs : List Value} {s : Sc} {u' : Value} (h : OwnGr w B (.slice (some ⟨g, 0, none⟩) ss.length cap) ss hs) (hs' : ss[i]? = some s)
    (hb : Below w.heap.size w w1) (hB : B ≤ w.heap.size) (hown : w1.ownsRow w.heap.size 38 3 u' (s.items.eraseIdx j).length (itemCells (s.items.eraseIdx j))) :
    OwnGr (w1.setCell ⟨g, i * 2 + 1, none⟩ u') B (.slice (some ⟨g, 0, none⟩) ss.length cap) (rmvP ss i j) (hs.set i u') := by
  have hil := (List.getElem?_eq_some_iff.1 hs').1
  obtain ⟨u, hu⟩ : ∃ u, hs[i]? = some u := ⟨_, List.getElem?_eq_getElem (by rw [h.len]; exact hil)⟩
  have hrow1 := ownsRow_below h.row hb
  obtain ⟨vs, hR⟩ := ownsRow_row hrow1
  have hat : ∀ (k : Nat) (z : Value), (hs.set i u')[k]? = some z → (k = i ∧ z = u') ∨ (k ≠ i ∧ hs[k]? = some z) := fun k z hz => by
    by_cases hk : k = i
    · subst hk
      rw [List.getElem?_set_self (List.getElem?_eq_some_iff.1 hu).1] at hz
      exact .inl ⟨rfl, (Option.some.inj hz).symm⟩
    · rw [List.getElem?_set_ne (fun e => hk e.symm)] at hz
      exact .inr ⟨hk, hz⟩
  have old : ∀ (k : Nat) (z : Value), hs[k]? = some z → ∀ q, z.ownBlock = some q → q < w.heap.size := fun k z hz q hq => by
    obtain ⟨t, ht⟩ : ∃ t, ss[k]? = some t := ⟨_, List.getElem?_eq_getElem (by rw [← h.len]; exact (List.getElem?_eq_some_iff.1 hz).1)⟩
    exact ((h.items k t z ht hz).lt q hq).2
  have new : ∀ q, u'.ownBlock = some q → w.heap.size ≤ q := fun q hq => (hown.lt q hq).1
  refine ⟨by rw [List.length_set, rmvP_length]; exact h.len, ?_, fun k t z ht hz => ?_, fun a b z z' hab hz hz' => ?_⟩
  · rw [rmvP_length, scRow_rmv i j u' h.len hil]
    exact ownsRow_set hrow1 (by rw [scRow_length h.len]; omega) u'
  · rcases hat k z hz with ⟨rfl, rfl⟩ | ⟨hk, hz2⟩
    · rw [rmvP_same hs'] at ht
      obtain rfl := Option.some.inj ht
      exact (ownsRow_otherN hown hR (by decide) _ _).mono hB
    · rw [rmvP_other hk] at ht
      exact ownsRow_otherN (ownsRow_below (h.items k t z ht hz2) hb) hR (by decide) _ _
  · rcases hat a z hz with ⟨rfl, rfl⟩ | ⟨ha, hz2⟩ <;> rcases hat b z' hz' with ⟨rfl, rfl⟩ | ⟨hb2, hz3⟩
    · exact absurd rfl hab
    · cases hq : z.ownBlock with
      | none => exact .inl rfl
      | some q => exact .inr fun e => by have h1 := new q hq; have h2 := old b z' hz3 q e.symm; omega
    · cases hq : z.ownBlock with
      | none => exact .inl rfl
      | some q => exact .inr fun e => by have h1 := new q e.symm; have h2 := old a z hz2 q hq; omega
    · exact h.apart a b z z' hab hz2 hz3
set_option maxRecDepth 100000 in
set_option maxHeartbeats 4000000 in
theorem specRemove_any (ss : List Sc) (hn : ss.length ≤ 1048576) (hn2 : ∀ s ∈ ss, s.items.length < 1048577) (oa : Option Addr) (cap i j : Nat) (s : Sc) (x : It) (hs' : ss[i]? = some s) (hx : s.items[j]? = some x) (w : World) (hc : HoldsScopes w oa ss) :
    Calls Tryd.prog 118 #[.agg #[.slice oa ss.length cap], .agg #[.int .i64 (i : Int), .int .i64 (j : Int)]] w fun e w' => ∃ v hs, e = .returned (.agg #[v]) ∧ OwnGr w' w.heap.size v (rmvP ss i j) hs ∧ Below w.heap.size w w' := by
  have hb0 : Below w.heap.size w (((w.alloc (.cells #[.slice oa ss.length cap] 25)).alloc (.cells #[.int .i64 (i : Int), .int .i64 (j : Int)] 27)).alloc (.cells #[.slice none 0 0] 25)) := (((Below.refl _ _).alloc (Nat.le_refl _) _).alloc (by simp) _).alloc (by simp; omega) _
  have R1 := ((Row.new w [.slice oa ss.length cap] 25).alloc (.cells #[.int .i64 (i : Int), .int .i64 (j : Int)] 27)).alloc (.cells #[.slice none 0 0] 25)
  have R2 := (Row.new (w.alloc (.cells #[.slice oa ss.length cap] 25)) [.int .i64 (i : Int), .int .i64 (j : Int)] 27).alloc (.cells #[.slice none 0 0] 25)
  have R3 := Row.new ((w.alloc (.cells #[.slice oa ss.length cap] 25)).alloc (.cells #[.int .i64 (i : Int), .int .i64 (j : Int)] 27)) [.slice none 0 0] 25
  rw [World.size_alloc] at R2
  rw [World.size_alloc, World.size_alloc] at R3
  have C := Lib.hid (specCopy_any ss oa cap hn hn2 _ (hc.below hb0 (Nat.le_refl _)))
  have HB := Lib.hid hb0
  have HR2 := Lib.hid R2
  have HR3 := Lib.hid R3
  have hil := (List.getElem?_eq_some_iff.1 hs').1
  have hjl := (List.getElem?_eq_some_iff.1 hx).1
  have hml := hn2 s (List.mem_of_getElem? hs')
  have HS := Lib.hid hs'
  have g1 := R1.cell (i := 0) (by rfl)
  clear hc hb0 R1 R2 R3 hs' hx hn2
  go_enter Tryd.func118, Tryd.ntmps118
  go_wp2_with fail
  refine C.out.mono ?_
  rintro e w1 ⟨v, hs, rfl, hO, hb1⟩
  obtain ⟨u, hu⟩ : ∃ u, hs[i]? = some u := ⟨_, List.getElem?_eq_getElem (by rw [hO.len]; exact hil)⟩
  obtain ⟨gs, cs, rfl, hgB, hgl, hcells⟩ : ∃ gs cs, v = .slice (some ⟨gs, 0, none⟩) ss.length cs ∧ _ ≤ gs ∧ gs < w1.heap.size ∧ w1.cell? ⟨gs, i * 2 + 1, none⟩ = some u := by
    have h1 := hO.row
    have hlt := h1.lt
    have hcc := fun g hg => h1.cells (g := g) hg
    obtain ⟨hl, h2 | ⟨g, c, cur, hv, hB, hh, _⟩⟩ := h1
    · have := h2.2; omega
    · subst hv
      have h3 := hcc g rfl _ _ (scRow_at HS.out hu).2
      rw [Addr.add_lit, Nat.zero_add] at h3
      exact ⟨g, c, rfl, hB, (hlt g rfl).2, h3⟩
  have hown := hO.items i s u HS.out hu
  obtain ⟨gi, ci, rfl, hgi, hnci, hcim⟩ : ∃ gi ci, u = .slice (some ⟨gi, 0, none⟩) s.items.length ci ∧ _ ≤ gi ∧ s.items.length ≤ ci ∧ ci ≤ maxLen := by
    obtain ⟨hl, h2 | ⟨g, c, cur, hv, hB, hh, h5, h6, _⟩⟩ := hown
    · have := h2.2; omega
    · exact ⟨g, c, hv, hB, h5, h6⟩
  have hgl2 : gi < w1.heap.size := (hown.lt gi rfl).2
  have hsz0 : (((w.alloc (.cells #[.slice oa ss.length cap] 25)).alloc (.cells #[.int .i64 (i : Int), .int .i64 (j : Int)] 27)).alloc (.cells #[.slice none 0 0] 25)).heap.size = w.heap.size + 3 := by simp
  have hgB' : w.heap.size + 3 ≤ gs := hsz0 ▸ hgB
  have hgi' : w.heap.size + 3 ≤ gi := hsz0 ▸ hgi
  have hbA := (Below.refl w1.heap.size w1).alloc (Nat.le_refl _) (.cells #[.slice (some ⟨gs, 0, none⟩) ss.length cs] 25)
  have HB1 := Lib.hid (HB.out.trans ((hb1.trans (hbA.mono hb1.size)).mono HB.out.size))
  have HO := Lib.hid (hO.below hbA)
  have HR2a := Lib.hid (HR2.out.below (hb1.trans (hbA.mono hb1.size)) HR2.out.lt)
  have HR3a := Lib.hid (HR3.out.below (hb1.trans (hbA.mono hb1.size)) HR3.out.lt)
  have RH := Lib.hid (Row.new w1 [.slice (some ⟨gs, 0, none⟩) ss.length cs] 25)
  obtain ⟨n, hn1⟩ : ∃ n, s.items.length = n + 1 := ⟨s.items.length - 1, by omega⟩
  have k1 := HR2a.out.cell (i := 1) (v := .int .i64 (j : Int)) (by rfl)
  have k0 := HR2a.out.cell (i := 0) (v := .int .i64 (i : Int)) (by rfl)
  have u1 := cell_grow hbA hcells
  have hh0 := RH.out.cell (i := 0) (v := .slice (some ⟨gs, 0, none⟩) ss.length cs) (by rfl)
  -- the items ahead of it and behind it
  have hH : HoldsItems (w1.alloc (.cells #[.slice (some ⟨gs, 0, none⟩) ss.length cs] 25)) (some ⟨gi, 0, none⟩) s.items := by
    obtain ⟨oi, ci', he, hh⟩ := holdsItems_of_owns (HO.out.items i s _ HS.out hu)
    simp only [Value.slice.injEq] at he
    rw [he.1]
    exact hh
  generalize hWA : w1.alloc (.cells #[.slice (some ⟨gs, 0, none⟩) ss.length cs] 25) = wA at *
  have hszA : wA.heap.size = w1.heap.size + 1 := by rw [← hWA]; simp
  have hbE := ((Below.refl wA.heap.size wA).drew).alloc (Nat.le_refl _) (.cells #[] 38)
  have hownE : (wA.drew.alloc (.cells #[] 38)).ownsRow wA.heap.size 38 3 (.slice (some ⟨wA.heap.size, 0, none⟩) 0 0) 0 [] := World.ownsRow_made (base := wA.heap.size) (e := 38) (size := 3) wA.drew #[] 0 (Nat.le_refl _) (by unfold maxLen; omega) rfl
  have hl1 : (s.items.take j).length = j := by rw [List.length_take]; omega
  have hl2 : (s.items.drop (j + 1)).length = n - j := by rw [List.length_drop]; omega
  obtain ⟨v5, w5, hrun5, hown5, hg5⟩ := run_append_items hownE (by show wA.heap.size ≤ _; simp) (ci := ci) (holdsItems_take (hH.below hbE (Nat.le_refl _)) j) (by omega) (by omega) 116
  simp only [Nat.zero_add, List.nil_append, hl1] at hown5 hrun5
  have hb5 : Below wA.heap.size _ w5 := below_grown1 hg5 (by show wA.heap.size ≤ _; simp) (fun r e => by simp only [Value.ownBlock, Option.some.injEq] at e; omega)
  obtain ⟨A, hA, hsrc⟩ : ∃ A : Addr, (if ci = j + 1 then some (⟨gi, 0, none⟩ : Addr) else some ⟨gi, (j + 1) * 3, none⟩) = some A ∧ Hid (HoldsItems w5 (some A) (s.items.drop (j + 1))) := by
    by_cases hcj : ci = j + 1
    · exact ⟨⟨gi, 0, none⟩, by simp [hcj], Lib.hid (.inl (List.eq_nil_of_length_eq_zero (by rw [hl2]; omega)))⟩
    · refine ⟨⟨gi, (j + 1) * 3, none⟩, by simp [hcj], Lib.hid ?_⟩
      have h1 := holdsItems_drop (hH.below (hbE.trans hb5) (Nat.le_refl _)) (j + 1)
      rw [Nat.zero_add] at h1
      exact h1
  have hbEs : wA.heap.size ≤ w5.heap.size := (hbE.trans hb5).size
  obtain ⟨v7, w7, hrun7, hown7, hg7⟩ := run_append_items hown5 hbEs (ci := ci - (j + 1)) hsrc.out (by omega) (by omega) 116
  rw [hl2] at hown7 hrun7
  have hb7 : Below wA.heap.size w5 w7 := below_grown1 hg7 hbEs (fun r e => (hown5.lt r e).1)
  have hbX : Below wA.heap.size wA w7 := (hbE.trans hb5).trans hb7
  have hEL : itemCells (s.items.take j) ++ itemCells (s.items.drop (j + 1)) = itemCells (s.items.eraseIdx j) := by rw [← itemCells_append, List.eraseIdx_eq_take_drop_succ]
  rw [hEL] at hown7
  have hjn : j + (n - j) = (s.items.eraseIdx j).length := by rw [List.length_eraseIdx, if_pos hjl]; omega
  rw [hjn] at hown7
  obtain ⟨o5, c5, rfl⟩ := ownsRow_slice hown5
  obtain ⟨o7, c7, rfl⟩ := ownsRow_slice hown7
  have HG7 : Hid (OwnGr (w7.setCell ⟨gs, i * 2 + 1, none⟩ (.slice o7 (s.items.eraseIdx j).length c7)) (w.heap.size + 3) (.slice (some ⟨gs, 0, none⟩) ss.length cs) (rmvP ss i j) (hs.set i (.slice o7 (s.items.eraseIdx j).length c7))) := Lib.hid (by
    have h1 := HO.out
    rw [hsz0] at h1
    exact OwnGr.rmv2 h1 HS.out hbX (by omega) hown7)
  have HB7 := Lib.hid (HB1.out.trans (hbX.mono HB1.out.size))
  have RH7 := Lib.hid (RH.out.below hbX RH.out.lt)
  have RR7 := Lib.hid (HR3a.out.below hbX HR3a.out.lt)
  obtain ⟨vs7, hRS⟩ : ∃ vs, Row w7 gs 118 vs := by
    obtain ⟨vs, h1⟩ := ownsRow_row HO.out.row
    exact ⟨vs, h1.below hbX h1.lt⟩
  have f7 := hRS.frozen (i * 2 + 1)
  obtain ⟨z7, hz7⟩ : ∃ z, w7.cell? ⟨gs, i * 2 + 1, none⟩ = some z := ⟨_, cell_grow hbX u1⟩
  rw [hszA] at hrun5
  have e0 := hh0
  have e1 := k0
  have e2 := k1
  have hSE := And.intro (cell_grow hbE e0) (And.intro (cell_grow hbE e1) (cell_grow hbE e2))
  have hS5 := And.intro (cell_grow (hbE.trans hb5) e0) (And.intro (cell_grow (hbE.trans hb5) e1) (cell_grow (hbE.trans hb5) e2))
  have hS7 := And.intro (cell_grow hbX e0) (And.intro (cell_grow hbX e1) (cell_grow hbX e2))
  rw [hn1] at u1
  have hi0 : (0 : Int) ≤ (i : Int) := by omega
  have hi1 : (i : Int) < (ss.length : Int) := by omega
  have hjw : IntKind.i64.wrap ((j : Int) + 1) = (j : Int) + 1 := IntWalk.i64_in _ (by omega)
  have hj0 : (0 : Int) ≤ (j : Int) + 1 := by omega
  have hjc : j ≤ ci := by omega
  have hjb : (j : Int) ≤ (n : Int) := by omega
  have HALL := Lib.hid (And.intro hSE (And.intro hS5 (And.intro hS7 (And.intro hrun5 hrun7))))
  have HLT := Lib.hid (And.intro hgl (And.intro hgB' hszA))
  have hbm : ci ≤ 9223372036854775807 := by unfold maxLen at hcim; omega
  have hnj : n + 1 - (j + 1) = n - j := by omega
  clear hO hb1 hu hcells hown hbA hgB hgi hgl hgl2 g1 hgB' hgi' hsz0 hH hbE hownE hl1 hl2 hrun5 hown5 hg5 hb5 hsrc hbEs hrun7 hown7 hg7 hb7 hbX hEL hjn hRS hSE hS5 hS7 e0 e1 e2 hszA hcim
  subst hWA
  go_wp2
  refine wp_region_kept (S := fun w' => w'.cell? ⟨w1.heap.size, 0, none⟩ = some (.slice (some ⟨gs, 0, none⟩) ss.length cs) ∧ w'.cell? ⟨w.heap.size + 1, 0, none⟩ = some (.int .i64 (i : Int)) ∧ w'.cell? ⟨w.heap.size + 1, 1, none⟩ = some (.int .i64 (j : Int))) 18 (by kernel_rfl) ?_
  have hS0 := And.intro (cell_drew hh0) (And.intro (cell_drew k0) (cell_drew k1))
  refine KeptAny.take (i := 0) (v := ?_) (by kernel_rfl) rfl rfl (by kernel_rfl) (by kernel_rfl) (by kernel_rfl) (fun _ _ _ h => h) (by rfl) (fun w' hw' => ?_) (fun _ => rfl) hS0 ?_
  rotate_left
  · (obtain ⟨g0, g1, g2⟩ := hw'; go_simp; try with_reducible rfl)
  refine KeptAny.take (i := 1) (v := ?_) (by kernel_rfl) rfl rfl (by kernel_rfl) (by kernel_rfl) (by kernel_rfl) (fun _ _ _ h => h) (by rfl) (fun w' hw' => ?_) (fun _ => rfl) hS0 ?_
  rotate_left
  · (obtain ⟨g0, g1, g2⟩ := hw'; go_simp; try with_reducible rfl)
  refine KeptAny.take (i := 2) (v := ?_) (by kernel_rfl) rfl rfl (by kernel_rfl) (by kernel_rfl) (by kernel_rfl) (fun _ _ _ h => h) (by rfl) (fun w' hw' => ?_) (fun _ => rfl) hS0 ?_
  rotate_left
  · (obtain ⟨g0, g1, g2⟩ := hw'; go_simp; try with_reducible rfl)
  refine KeptAny.take (i := 3) (v := ?_) (by kernel_rfl) rfl rfl (by kernel_rfl) (by kernel_rfl) (by kernel_rfl) (fun _ _ _ h => h) (by rfl) (fun w' hw' => ?_) (fun _ => rfl) hS0 ?_
  rotate_left
  · (obtain ⟨g0, g1, g2⟩ := hw'; go_simp; try with_reducible rfl)
  refine KeptAny.take (i := 5) (v := ?_) (by kernel_rfl) rfl rfl (by kernel_rfl) (by kernel_rfl) (by kernel_rfl) (fun _ _ _ h => h) (by rfl) (fun w' hw' => ?_) (fun _ => rfl) hS0 ?_
  rotate_left
  · (obtain ⟨g0, g1, g2⟩ := hw'; go_simp; try with_reducible rfl)
  refine KeptAny.take (i := 6) (v := ?_) (by kernel_rfl) rfl rfl (by kernel_rfl) (by kernel_rfl) (by kernel_rfl) (fun _ _ _ h => h) (by rfl) (fun w' hw' => ?_) (fun _ => rfl) hS0 ?_
  rotate_left
  · (obtain ⟨g0, g1, g2⟩ := hw'; go_simp; try with_reducible rfl)
  refine KeptAny.take (i := 7) (v := ?_) (by kernel_rfl) rfl rfl (by kernel_rfl) (by kernel_rfl) (by kernel_rfl) (fun _ _ _ h => h) (by rfl) (fun w' hw' => ?_) (fun _ => rfl) hS0 ?_
  rotate_left
  · (obtain ⟨g0, g1, g2⟩ := hw'; go_simp; try with_reducible rfl)
  refine KeptAny.take (i := 8) (v := ?_) (by kernel_rfl) rfl rfl (by kernel_rfl) (by kernel_rfl) (by kernel_rfl) (fun _ _ _ h => h) (by rfl) (fun w' hw' => ?_) (fun _ => rfl) hS0 ?_
  rotate_left
  · (obtain ⟨g0, g1, g2⟩ := hw'; go_simp; try with_reducible rfl)
  refine KeptAny.take (i := 10) (v := ?_) (by kernel_rfl) rfl rfl (by kernel_rfl) (by kernel_rfl) (by kernel_rfl) (fun _ _ _ h => h) (by rfl) (fun w' hw' => ?_) (fun _ => rfl) hS0 ?_
  rotate_left
  · (obtain ⟨g0, g1, g2⟩ := hw'; go_simp; try with_reducible rfl)
  refine KeptAny.take (i := 11) (v := ?_) (by kernel_rfl) rfl rfl (by kernel_rfl) (by kernel_rfl) (by kernel_rfl) (fun _ _ _ h => h) (by rfl) (fun w' hw' => ?_) (fun _ => rfl) hS0 ?_
  rotate_left
  · (obtain ⟨g0, g1, g2⟩ := hw'; go_simp; try with_reducible rfl)
  refine KeptAny.take (i := 12) (v := ?_) (by kernel_rfl) rfl rfl (by kernel_rfl) (by kernel_rfl) (by kernel_rfl) (fun _ _ _ h => h) (by rfl) (fun w' hw' => ?_) (fun _ => rfl) hS0 ?_
  rotate_left
  · (obtain ⟨g0, g1, g2⟩ := hw'; go_simp; try with_reducible rfl)
  refine KeptAny.take (i := 13) (v := ?_) (by kernel_rfl) rfl rfl (by kernel_rfl) (by kernel_rfl) (by kernel_rfl) (fun _ _ _ h => h) (by rfl) (fun w' hw' => ?_) (fun _ => rfl) hS0 ?_
  rotate_left
  · (obtain ⟨g0, g1, g2⟩ := hw'; go_simp; try with_reducible rfl)
  refine KeptAny.take (i := 14) (v := ?_) (by kernel_rfl) rfl rfl (by kernel_rfl) (by kernel_rfl) (by kernel_rfl) (fun _ _ _ h => h) (by rfl) (fun w' hw' => ?_) (fun _ => rfl) hS0 ?_
  rotate_left
  · (obtain ⟨g0, g1, g2⟩ := hw'; go_simp; try with_reducible rfl)
  refine KeptAny.one (i := 4) (by kernel_rfl) rfl (by rfl) (fun K hK => ?_)
  go_simp
  refine hK.out _ _ HALL.out.1 (fun _ => ?_)
  clear hK hS0
  refine KeptAny.one (i := 9) (by kernel_rfl) rfl (by rfl) (fun K hK => ?_)
  refine wpIn_append_run _ _ 116 rfl rfl HALL.out.2.2.2.1 ?_
  refine hK.out _ _ HALL.out.2.1 (fun _ => ?_)
  clear hK
  refine KeptAny.one (i := 15) (by kernel_rfl) rfl (by rfl) (fun K hK => ?_)
  refine wpIn_append_run _ _ 116 rfl rfl HALL.out.2.2.2.2 ?_
  refine hK.out _ _ HALL.out.2.2.1 (fun _ => ?_)
  clear hK
  refine KeptAny.one (i := 16) (by kernel_rfl) rfl (by rfl) (fun K hK => ?_)
  go_simp
  refine hK.out _ _ HALL.out.2.2.1 (fun _ => ?_)
  clear hK
  refine KeptAny.one (i := 17) (by kernel_rfl) rfl (by rfl) (fun K hK => ?_)
  go_simp
  refine hK.out _ _ HALL.out.2.2.1 (fun _ => ?_)
  clear hK
  refine KeptAny.last (by kernel_rfl) rfl (by rfl) (fun K hK => ?_)
  go_simp
  refine hK.out _ _ ?_
  clear hK
  refine KeptAny.done (by kernel_rfl) ?_ _
  have hB5 := Lib.hid (HB7.out.setCell (p := ⟨gs, i * 2 + 1, none⟩) (by have := HLT.out; show w.heap.size ≤ gs; omega) (.slice o7 (s.items.eraseIdx j).length c7))
  have r0 := (RH7.out.other (a := ⟨gs, i * 2 + 1, none⟩) (by have := HLT.out; show gs ≠ w1.heap.size; omega) (.slice o7 (s.items.eraseIdx j).length c7)).cell (i := 0) (v := .slice (some ⟨gs, 0, none⟩) ss.length cs) (by rfl)
  have RR5 := Lib.hid (RR7.out.other (a := ⟨gs, i * 2 + 1, none⟩) (by have := HLT.out; show gs ≠ w.heap.size + 1 + 1; omega) (.slice o7 (s.items.eraseIdx j).length c7))
  have n0 := RR5.out.cell (i := 0) (v := .slice none 0 0) (by rfl)
  have f0 := RR5.out.frozen 0
  clear f7 hz7
  generalize w7.setCell ⟨gs, i * 2 + 1, none⟩ (.slice o7 (s.items.eraseIdx j).length c7) = wB at *
  go_wp2
  have RT := RR5.out.set 0 (.slice (some ⟨gs, 0, none⟩) ss.length cs)
  have d0 := RT.cell (i := 0) (v := .slice (some ⟨gs, 0, none⟩) ss.length cs) (by rfl)
  refine bodyPost_ret (v := .agg #[.slice (some ⟨gs, 0, none⟩) ss.length cs]) (by simp [results, Tryd.results118, go_sem, d0]) rfl ⟨_, hs.set i (.slice o7 (s.items.eraseIdx j).length c7), rfl, ?_, hB5.out.setCell (by simp; omega) _⟩
  refine OwnGr.lower (B := w.heap.size + 3) ?_ (by omega)
  exact ⟨HG7.out.len, ownsRow_otherN HG7.out.row RR5.out (by decide) 0 _, fun k t z h1 h2 => ownsRow_otherN (HG7.out.items k t z h1 h2) RR5.out (by decide) 0 _, HG7.out.apart⟩
end Go.Proofs.YtimcobenmgbciaaDoor
