/-
  The walks of the given l3FromBy, l3WayBy and l3MeantBy. Conditions: the argument's memory holds the graph, and the table what its scopes import.
-/
import Derived.Test.YtppgdigcopkeiaaDoorLookP
import Derived.Test.YtppgdigcopkeiaaDoorWSpecWithin
import Derived.Laws.OwnMore
import Derived.Deep.RegionHeld3
namespace Go.Proofs.YtppgdigcopkeiaaDoor
open Go Go.RowKit Go.Maps
/-- Places appended to a row of places of one's own, as the operation runs it. -/
theorem append_places {W : World} {base k : Nat} {v u : Value} {xs : List Value} {ps : List (Int × Int)} {B : Nat} (hrow : W.ownsRow base 34 2 v k xs) (hu : W.ownsRow B 34 2 u ps.length (placeCells ps)) (hk : k + ps.length < 1000000) (hbase : base ≤ W.heap.size) (ty : TypeId) :
    ∃ v' w', (Builtin.append_ #[39, 39] ty #[v, u]).run Tryd.prog W = .ok v' w' ∧ w'.ownsRow base 34 2 v' (k + ps.length) (xs ++ placeCells ps) ∧ W.grownBy w' v.ownBlock := by
  obtain ⟨i0, hi, hz0, hz1, hz2⟩ := info_parts infoPl
  obtain ⟨hl, h2 | ⟨g, cap, cur, hv, hB, hh, hn, _, hs, ht⟩⟩ := hu
  · obtain ⟨rfl, h0⟩ := h2
    have hp := List.eq_nil_of_length_eq_zero h0
    subst hp
    refine ⟨v, W, run_append_owned_none W base 39 ty 34 i0 2 Tryd.underlying39 hi v k xs hrow, by simpa [placeCells] using hrow, ⟨rfl, rfl, rfl, Nat.le_refl _, fun _ _ _ => rfl⟩⟩
  · subst hv
    have hcells : ∀ (j : Nat) (q : Value), (placeCells ps)[j]? = some q → W.cell? ((⟨g, 0, none⟩ : Addr).add j) = some q := by
      intro j q hq
      have hjl := (List.getElem?_eq_some_iff.1 hq).1
      have h2 : (⟨g, 0, none⟩ : Addr).add j = ⟨g, j, none⟩ := by unfold Addr.add; split <;> simp_all
      rw [h2]
      rw [← ht, List.getElem?_take_of_lt (by omega)] at hq
      simp [World.cell?, hh]
      simpa using hq
    obtain ⟨v', w', hrun, h2, h3, _, _⟩ := run_append_own_at (P := Tryd.prog) W base 39 ty 34 i0 (.agg #[.int .i64 0, .int .i64 0]) 2 16 Tryd.underlying39 hi hz0 hz1 hz2 rfl (by decide) v k xs hrow ⟨g, 0, none⟩ ps.length cap (placeCells ps) hl hcells
      (by
        intro q hq
        unfold placeCells at hq
        obtain ⟨p, _, hp⟩ := List.mem_flatMap.1 hq
        simp only [List.mem_cons, List.mem_nil_iff, or_false] at hp
        rcases hp with rfl | rfl <;> rfl) (by unfold maxLen; omega) (by omega) hbase
    exact ⟨v', w', hrun, h2, h3⟩
/-- An append whose run is known. -/
theorem wpList_append_run {P : Program} {w : World} {ops : Array Oper} {rest : List Oper} {o : Oper} {a : Act} {Q : Exit → Act → World → Prop} (hgd : o.guard = none) (s x : Operand) (t : TypeId)
    (ho : o.op = .call { callee := .builtin .append, args := #[s, x], argTypes := #[t, t] }) {v' : Value} {w' : World} (hr : (Builtin.append_ #[t, t] o.type #[a.eval s, a.eval x]).run P w = .ok v' w')
    (h : wpList P ops Q rest (a.put o.dst v') w') : wpList P ops Q (o :: rest) a w :=
  wpList_plain hgd fun _ hK => by
    unfold Oper.wp execOp
    simp only [ho, resolve, invoke, builtin, Sem.run_bind, Sem.run_pure, Result.andThen_ok, List.map_toArray, List.map_cons, List.map_nil, hr]
    exact hK _ _ h
theorem placeCells_append (a b : List (Int × Int)) : placeCells (a ++ b) = placeCells a ++ placeCells b := by simp [placeCells]
theorem grown_below {W w' : World} {base k n size : Nat} {e : TypeId} {v : Value} {xs : List Value} (hrow : W.ownsRow base e size v k xs) (hg : W.grownBy w' v.ownBlock) (hb : n ≤ base) (hW : n ≤ W.heap.size) : Below n W w' := by
  refine (Below.refl n W).grown hg hW (fun r e => ?_)
  obtain ⟨_, h2 | ⟨g', cap, cur, hv, hB, _, _⟩⟩ := hrow
  · rw [h2.1] at e; simp [Value.ownBlock] at e
  · rw [hv] at e; simp only [Value.ownBlock, Option.some.injEq] at e; omega
set_option maxRecDepth 100000 in
set_option maxHeartbeats 1600000 in
theorem specFromBy_any (ss : List Sc) (hv : Valid ss) (oa : Option Addr) (cap : Nat) (l : List Nat) (hl : ∀ m ∈ l, m < ss.length) (hlen : l.length ≤ 6) (ol : Option Addr) (cl : Nat) (nm : ByteArray) (w : World) (hc : HoldsScopes w oa ss) (hi : HoldsInts w ol (natInts l)) :
    Calls Tryd.prog 183 #[.agg #[.slice oa ss.length cap], .slice ol (natInts l).length cl, .string nm] w (PlsGot (fromP ss l nm) w) := by
  have hb0 := ((Below.refl w.heap.size w).alloc (Nat.le_refl _) (.cells #[.slice oa ss.length cap] 30)).alloc (by simp) (.cells #[] 34)
  have hR0 := (Row.new w [.slice oa ss.length cap] 30).alloc (.cells #[] 34)
  have hown0 : ((w.alloc (.cells #[.slice oa ss.length cap] 30)).alloc (.cells #[] 34)).ownsRow w.heap.size 34 2 (.slice (some ⟨w.heap.size + 1, 0, none⟩) 0 0) 0 [] := by
    have h0 := World.ownsRow_made (base := w.heap.size) (e := 34) (size := 2) (w.alloc (.cells #[.slice oa ss.length cap] 30)) #[] 0 (by simp) (by unfold maxLen; omega) rfl
    rw [World.size_alloc] at h0
    exact h0
  have HP0 : Hid (PlsAt w ((w.alloc (.cells #[.slice oa ss.length cap] 30)).alloc (.cells #[] 34)) oa cap ss.length (.slice (some ⟨w.heap.size + 1, 0, none⟩) 0 0) []) := Lib.hid ⟨hR0, hown0, hb0⟩
  have HC := Lib.hid hc
  have HV := Lib.hid hv
  have HL := Lib.hid hl
  have HI := Lib.hid hi
  have HN : Hid ((natInts l).length = l.length) := Lib.hid (natInts_length l)
  have hn6 : (natInts l).length ≤ 6 := by rw [natInts_length]; exact hlen
  clear hv hc hl hi hlen hb0 hR0 hown0
  go_enter Tryd.func183, Tryd.ntmps183
  go_wp2
  go_loopw [7, 13] (fun v i wr => ∃ k : Nat, i = .int .i64 k ∧ k ≤ (natInts l).length ∧ Hid (PlsAt w wr oa cap ss.length v (fromP ss (l.take k) nm))) (fun _ i _ => (natInts l).length - (intOf i).toNat)
  case atStart => exact ⟨0, rfl, Nat.zero_le _, HP0⟩
  case round =>
    obtain ⟨k, rfl, hk, hP⟩ := hrel
    by_cases hlt : k < (natInts l).length
    · obtain ⟨x, hx⟩ : ∃ x, l[k]? = some x := ⟨_, List.getElem?_eq_getElem (by rw [HN.out] at hlt; exact hlt)⟩
      have hxi : (natInts l)[k]? = some (x : Int) := by unfold natInts; rw [List.getElem?_map, hx]; rfl
      obtain ⟨b1, f1, rfl, hb1, q1⟩ := HI.out.at (by omega)
      have a0 := (hP.out.below.cell (p := ⟨b1, f1 + k, none⟩) hb1).trans (q1 k _ hxi)
      have g0 := hP.out.box.cell (i := 0) (by rfl)
      have C2 := Lib.hid (specL3Own_any ss HV.out oa cap x (HL.out x (List.mem_of_getElem? hx)) nm _ (HC.out.below hP.out.below (Nat.le_refl _)))
      have HTK : Hid (fromP ss (l.take (k + 1)) nm = fromP ss (l.take k) nm ++ ownP ss x nm) := Lib.hid (by rw [List.take_add_one, hx]; exact fromP_snoc _ _ _ _)
      have hfl : (fromP ss (l.take k) nm).length ≤ 30 := by
        have h1 := fromP_length HV.out nm (l.take k)
        rw [List.length_take] at h1
        have h2 := HN.out
        omega
      have hol := ownP_length HV.out x nm
      have hbs := hP.out.below.size
      clear hx hxi q1
      go_wp2_with fail
      refine C2.out.mono ?_
      rintro e w2 ⟨u, rfl, hu, hb2⟩
      have HP2 := Lib.hid (hP.out.step hb2)
      obtain ⟨v', w3, hrun, hown', hgrow⟩ := append_places HP2.out.row hu (by omega) HP2.out.below.size 39
      have HP4 : Hid (PlsAt w w3 oa cap ss.length v' (fromP ss (l.take (k + 1)) nm)) := Lib.hid {
        box := HP2.out.box.grown hgrow (ownsRow_ne2 HP2.out.box (by decide) HP2.out.row)
        row := by rw [HTK.out, List.length_append, placeCells_append]; exact hown'
        below := HP2.out.below.trans (grown_below HP2.out.row hgrow (Nat.le_refl w.heap.size) HP2.out.below.size) }
      have HRUN := Lib.hid hrun
      clear hown' hgrow hu hb2 hrun
      go_wp2_with (at_builtin; refine wpList_append_run rfl _ _ 39 rfl HRUN.out ?_)
      go_wp2
      go_roundw
      case rel => exact ⟨k + 1, by go_num, by omega, HP4⟩
      case measure => simp only [intOf]; omega
    · obtain rfl : k = (natInts l).length := by omega
      have HE : Hid (l.take (natInts l).length = l) := Lib.hid (by rw [HN.out, List.take_length])
      go_wp2
      go_ret
      exact ⟨_, rfl, by have := hP.out.row; rw [HE.out] at this; exact this, hP.out.below⟩
/-- A table in memory: a list of lists of numbers. -/
def HoldsTab (w : World) (ot : Option Addr) (tab : List (List Nat)) : Prop :=
  tab = [] ∨ ∃ b off, ot = some ⟨b, off, none⟩ ∧ b < w.heap.size ∧ ∀ m l, tab[m]? = some l → ∃ o c, w.cell? ⟨b, off + m, none⟩ = some (.slice o (natInts l).length c) ∧ HoldsInts w o (natInts l)
theorem HoldsTab.below {w w' : World} {ot : Option Addr} {tab : List (List Nat)} (h : HoldsTab w ot tab) (hb : Below w.heap.size w w') : HoldsTab w' ot tab := by
  rcases h with h | ⟨b, off, h1, h2, h3⟩
  · exact .inl h
  · refine .inr ⟨b, off, h1, Nat.lt_of_lt_of_le h2 hb.size, fun m l hl => ?_⟩
    obtain ⟨o, c, k1, k2⟩ := h3 m l hl
    exact ⟨o, c, (hb.cell (p := ⟨b, _, none⟩) h2).trans k1, k2.below hb⟩
theorem HoldsTab.at {w : World} {ot : Option Addr} {tab : List (List Nat)} {m : Nat} {l : List Nat} (h : HoldsTab w ot tab) (hm : tab[m]? = some l) : ∃ b off o c, ot = some ⟨b, off, none⟩ ∧ b < w.heap.size ∧ w.cell? ⟨b, off + m, none⟩ = some (.slice o (natInts l).length c) ∧ HoldsInts w o (natInts l) := by
  rcases h with h | ⟨b, off, h1, h2, h3⟩
  · subst h; simp at hm
  · obtain ⟨o, c, k1, k2⟩ := h3 m l hm
    exact ⟨b, off, o, c, h1, h2, k1, k2⟩
/-- What l3WayBy answers. -/
def WayGot (f : Found) (w : World) (e : Ending) (w' : World) : Prop := ∃ v, e = .returned (.tuple #[.int .i64 f.scope, .int .i64 f.way, v]) ∧ w'.ownsRow w.heap.size 34 2 v f.places.length (placeCells f.places) ∧ Below w.heap.size w w'
theorem isEmpty_pos {α : Type} {l : List α} (h : 0 < l.length) : l.isEmpty = false := by cases l <;> simp_all
theorem isEmpty_zero {α : Type} {l : List α} (h : ¬ 0 < l.length) : l.isEmpty = true := by cases l <;> simp_all
theorem lookF_cons_own {ss : List Sc} {imps : Nat → List Nat} {nm : ByteArray} {m : Nat} {r : List Nat} (h : 0 < (ownP ss m nm).length) : lookF ss imps nm (m :: r) = ⟨(m : Int), 1, ownP ss m nm⟩ := by
  show (if _ then _ else _) = _
  rw [if_neg (by rw [isEmpty_pos h]; simp)]
theorem lookF_cons_from {ss : List Sc} {imps : Nat → List Nat} {nm : ByteArray} {m : Nat} {r : List Nat} (h : ¬ 0 < (ownP ss m nm).length) (h2 : 0 < (fromP ss (imps m) nm).length) : lookF ss imps nm (m :: r) = ⟨(m : Int), 2, fromP ss (imps m) nm⟩ := by
  show (if _ then (if _ then _ else _) else _) = _
  rw [if_pos (isEmpty_zero h), if_neg (by rw [isEmpty_pos h2]; simp)]
theorem lookF_cons_next {ss : List Sc} {imps : Nat → List Nat} {nm : ByteArray} {m : Nat} {r : List Nat} (h : ¬ 0 < (ownP ss m nm).length) (h2 : ¬ 0 < (fromP ss (imps m) nm).length) : lookF ss imps nm (m :: r) = lookF ss imps nm r := by
  show (if _ then (if _ then _ else _) else _) = _
  rw [if_pos (isEmpty_zero h), if_pos (isEmpty_zero h2)]
theorem cell_grow {W W' : World} {p : Addr} {v : Value} (hb : Below W.heap.size W W') (h : W.cell? p = some v) : W'.cell? p = some v := (hb.cell (World.block_lt_of_cell? _ _ h)).trans h
theorem cell_drew {W : World} {p : Addr} {v : Value} (h : W.cell? p = some v) : W.drew.cell? p = some v := h
set_option maxRecDepth 100000 in
set_option maxHeartbeats 4000000 in
theorem specWayBy_any (ss : List Sc) (hv : Valid ss) (oa : Option Addr) (cap : Nat) (k0 : Nat) (hk0 : k0 ≤ ss.length) (ot : Option Addr) (ct : Nat) (s0 : Nat) (hs0 : s0 < k0) (nm : ByteArray) (w : World) (hc : HoldsScopes w oa ss) (ht : HoldsTab w ot (tabP ss k0)) :
    Calls Tryd.prog 179 #[.agg #[.slice oa ss.length cap], .slice ot k0 ct, .int .i64 s0, .string nm] w (WayGot (lookP ss s0 nm) w) := by
  have hb0 := (Below.refl w.heap.size w).alloc (Nat.le_refl _) (.cells #[.slice oa ss.length cap] 30)
  have R0 := Lib.hid (Row.new w [.slice oa ss.length cap] 30)
  have HB0 := Lib.hid hb0
  have HC := Lib.hid hc
  have HT := Lib.hid ht
  have HV := Lib.hid hv
  have h6 := hv.count.2
  have HK := Lib.hid hv.climbs
  clear hv hc ht hb0
  go_enter Tryd.func179, Tryd.ntmps179
  go_wp2
  go_loopw [2] (fun sv wr => Row wr w.heap.size 30 [.slice oa ss.length cap] ∧ Below w.heap.size w wr ∧
      ((sv = .int .i64 (-1) ∧ Hid (lookP ss s0 nm = ⟨-1, 0, []⟩)) ∨ ∃ i : Nat, sv = .int .i64 i ∧ i ≤ s0 ∧ Hid (lookP ss s0 nm = lookF ss (impP ss) nm (chainP ss i)))) (fun sv _ => (intOf sv + 1).toNat)
  case atStart => exact ⟨R0.out, HB0.out, .inr ⟨s0, rfl, Nat.le_refl _, Lib.hid rfl⟩⟩
  case round =>
    obtain ⟨hR, hb, ⟨rfl, hlook⟩ | ⟨i, rfl, hi, hlook⟩⟩ := hrel
    · have HBB := Lib.hid hb
      have hown0 : (wr.alloc (.cells #[] 34)).ownsRow w.heap.size 34 2 (.slice (some ⟨wr.heap.size, 0, none⟩) 0 0) 0 [] :=
        World.ownsRow_made (base := w.heap.size) (e := 34) (size := 2) wr #[] 0 hb.size (by unfold maxLen; omega) rfl
      have HO := Lib.hid hown0
      clear hR hb hown0
      go_wp2
      go_ret3
      rw [hlook.out]
      exact ⟨_, rfl, HO.out, HBB.out.alloc HBB.out.size _⟩
    · obtain ⟨c, hci⟩ : ∃ c, ss[i]? = some c := ⟨_, List.getElem?_eq_getElem (by omega)⟩
      obtain ⟨bb, off, rfl, hbb, hcell⟩ := HC.out.at (by omega)
      obtain ⟨oi, ci, a0, a1, -⟩ := hcell i c hci
      obtain ⟨bt, offt, o3, c3, rfl, hbt, ht1, ht2⟩ := HT.out.at (tabP_get ss k0 (show i < k0 by omega))
      have C2 := Lib.hid (specL3Own_any ss HV.out (some ⟨bb, off, none⟩) cap i (by omega) nm _ (HC.out.below hb (Nat.le_refl _)))
      have HCI := Lib.hid hci
      have HRR := Lib.hid hR
      have HBB := Lib.hid hb
      have HA0 : Hid (w.cell? ⟨bb, off + i * 2, none⟩ = some (.int .i64 c.parent)) := Lib.hid a0
      have HT1 := Lib.hid (And.intro ht1 ht2)
      have g0 := hR.cell (i := 0) (by rfl)
      have hol := ownP_length HV.out i nm
      clear hR hb hcell hci a0 a1 ht1 ht2
      go_wp2_with fail
      refine C2.out.mono ?_
      rintro e w2 ⟨u, rfl, hu, hb2⟩
      obtain ⟨ou, cu, rfl⟩ := ownsRow_slice hu
      have HB2 := Lib.hid (HBB.out.trans (hb2.mono HBB.out.size))
      have R2 := Lib.hid (HRR.out.below hb2 HRR.out.lt)
      have HU := Lib.hid (ownsRow_lower hu HBB.out.size)
      clear hb2 hu g0
      by_cases hpos : 0 < (ownP ss i nm).length
      · have HE : Hid (lookP ss s0 nm = ⟨(i : Int), 1, ownP ss i nm⟩) := Lib.hid (by
          rw [hlook.out]
          obtain ⟨t, ht⟩ := chain_head ss i
          rw [ht]
          exact lookF_cons_own hpos)
        go_wp2
        go_ret3
        rw [HE.out]
        exact ⟨_, rfl, HU.out, HB2.out⟩
      · have HNP := Lib.hid hpos
        have hz : (ownP ss i nm).length = 0 := by omega
        have g2 := R2.out.cell (i := 0) (by rfl)
        have t2 := (HB2.out.cell (p := ⟨bt, offt + i, none⟩) hbt).trans HT1.out.1
        have hik : (i : Int) < (k0 : Int) := by omega
        have hi00 : (0 : Int) ≤ (i : Int) := by omega
        clear hpos
        go_wp2
        go_cut [12] (fun s12 wx => ∃ o4 c4, s12 = .slice o4 (fromP ss (impP ss i) nm).length c4 ∧ wx.ownsRow w2.heap.size 34 2 (.slice o4 (fromP ss (impP ss i) nm).length c4) (fromP ss (impP ss i) nm).length (placeCells (fromP ss (impP ss i) nm)) ∧ Below w2.heap.size w2 wx)
        case first =>
          go_region_held3 (fun w' => w'.cell? ⟨w.heap.size, 0, none⟩ = some (.slice (some ⟨bb, off, none⟩) ss.length cap) ∧ w'.cell? ⟨bt, offt + i, none⟩ = some (.slice o3 (natInts (impP ss i)).length c3))
            (first | exact ⟨g2, t2⟩ | exact ⟨cell_drew g2, cell_drew t2⟩ | exact ⟨cell_grow hb3 (cell_drew g2), cell_grow hb3 (cell_drew t2)⟩)
            (first | (go_at_call 183; refine (specFromBy_any ss HV.out (some ⟨bb, off, none⟩) cap (impP ss i) (impP_ok HV.out i).1 (by have := impP_length HV.out i; omega) o3 c3 nm _ (HC.out.below HB2.out.drew (Nat.le_refl _)) ((HT1.out.2.below HB2.out.drew))).mono ?_; rintro e w3 ⟨v3, rfl, hrow3, hb3⟩))
          all_goals (obtain ⟨o4, c4, rfl⟩ := ownsRow_slice hrow3)
          all_goals go_wp2
          all_goals go_meet
          all_goals exact ⟨o4, c4, rfl, hrow3, ((Below.refl _ _).drew).trans hb3⟩
        case rest =>
          obtain ⟨o4, c4, rfl, hrow4, hbc⟩ := hcut
          have HB4 := Lib.hid (HB2.out.trans (hbc.mono HB2.out.size))
          have R4 := Lib.hid (R2.out.below hbc R2.out.lt)
          have HO4 := Lib.hid (ownsRow_lower hrow4 HB2.out.size)
          have hfl : (fromP ss (impP ss i) nm).length ≤ 25 := by have h1 := fromP_length HV.out nm (impP ss i); have h2 := impP_length HV.out i; omega
          clear hbc hrow4 g2 t2
          by_cases hpos : 0 < (fromP ss (impP ss i) nm).length
          · have HE : Hid (lookP ss s0 nm = ⟨(i : Int), 2, fromP ss (impP ss i) nm⟩) := Lib.hid (by
              rw [hlook.out]
              obtain ⟨t, ht⟩ := chain_head ss i
              rw [ht]
              exact lookF_cons_from HNP.out hpos)
            go_wp2
            go_ret3
            rw [HE.out]
            exact ⟨_, rfl, HO4.out, HB4.out⟩
          · have HNF := Lib.hid hpos
            have hzf : (fromP ss (impP ss i) nm).length = 0 := by omega
            have g4 := R4.out.cell (i := 0) (by rfl)
            have a4 := (HB4.out.cell (p := ⟨bb, off + i * 2, none⟩) hbb).trans HA0.out
            clear hpos
            rcases HK.out.cases HCI.out with ⟨hz0, h1, h2⟩ | ⟨p, h1, hlt, h2⟩
            · rw [h1] at a4
              have HE : Hid (lookP ss s0 nm = ⟨-1, 0, []⟩) := Lib.hid (by rw [hlook.out, chain_none h2, lookF_cons_next HNP.out HNF.out]; rfl)
              clear h1 h2 hz0
              go_wp2
              go_roundw
              case rel => exact ⟨R4.out, HB4.out, .inl ⟨rfl, HE⟩⟩
              case measure => simp only [intOf]; omega
            · rw [h1] at a4
              have HE : Hid (lookP ss s0 nm = lookF ss (impP ss) nm (chainP ss p)) := Lib.hid (by rw [hlook.out, chain_some HK.out h2, lookF_cons_next HNP.out HNF.out])
              clear h1 h2
              go_wp2
              go_roundw
              case rel => exact ⟨R4.out, HB4.out, .inr ⟨p, rfl, by omega, HE⟩⟩
              case measure => simp only [intOf]; omega
end Go.Proofs.YtppgdigcopkeiaaDoor
