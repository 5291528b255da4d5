/-
  The walk of the given l3Table. Condition: the argument's memory holds the graph.
-/
import Derived.Test.YtppgdigcopkeiaaDoorWSpecMeant
namespace Go.Proofs.YtppgdigcopkeiaaDoor
open Go Go.RowKit Go.Maps
attribute [local go_sem ↓] field_kind field_name field_scope
theorem infoSl : (Tryd.prog.info? 56).map (fun i => (i.zero, i.size, i.bytes)) = some (some (.slice none 0 0), 1, 24) := by kernel_rfl
/-- Two rows of one's own whose elements have different types lie in different blocks. -/
theorem ownsRows_ne {w : World} {b1 b2 n1 n2 s1 s2 : Nat} {t1 t2 : TypeId} {v1 v2 : Value} {xs1 xs2 : List Value} (h1 : w.ownsRow b1 t1 s1 v1 n1 xs1) (h2 : w.ownsRow b2 t2 s2 v2 n2 xs2) (ht : t1 ≠ t2) : v1.ownBlock = none ∨ v1.ownBlock ≠ v2.ownBlock := by
  obtain ⟨_, k1 | ⟨g1, c1, cur1, hv1, _, hh1, _⟩⟩ := h1
  · exact .inl (by rw [k1.1]; rfl)
  · obtain ⟨_, k2 | ⟨g2, c2, cur2, hv2, _, hh2, _⟩⟩ := h2
    · refine .inr ?_
      rw [k2.1, hv1]
      intro e
      cases e
    · refine .inr ?_
      rw [hv1, hv2]
      intro e
      simp only [Value.ownBlock, Option.some.injEq] at e
      subst e
      rw [hh1] at hh2
      injection hh2 with hh2
      injection hh2 with _ e2
      exact ht e2
/-- What holds at the head of a scope's round. -/
structure TabAt (w wr : World) (oa : Option Addr) (cap n : Nat) (v : Value) (tab : List (List Nat)) : Prop where
  box : Row wr w.heap.size 30 [.slice oa n cap]
  row : ∃ hs : List Value, wr.ownsRow w.heap.size 56 1 v tab.length hs ∧ ∀ (m : Nat) (l : List Nat), tab[m]? = some l → ∃ u : Value, hs[m]? = some u ∧ wr.ownsRow w.heap.size 3 1 u l.length (numVals l)
  below : Below w.heap.size w wr
theorem TabAt.step {w wr w' : World} {oa : Option Addr} {cap n : Nat} {v : Value} {tab : List (List Nat)} (h : TabAt w wr oa cap n v tab) (hb : Below wr.heap.size wr w') : TabAt w w' oa cap n v tab where
  box := h.box.below hb h.box.lt
  row := by
    obtain ⟨hs, h1, h2⟩ := h.row
    refine ⟨hs, ownsRow_below h1 hb, fun m l hl => ?_⟩
    obtain ⟨u, k1, k2⟩ := h2 m l hl
    exact ⟨u, k1, ownsRow_below k2 hb⟩
  below := h.below.trans (hb.mono h.below.size)
/-- The lists of a table are the call's own. -/
def OwnsTab (w : World) (base : Nat) (ot : Option Addr) (tab : List (List Nat)) : Prop :=
  ∀ (m : Nat) (l : List Nat), tab[m]? = some l → ∃ (b off : Nat) (u : Value), ot = some ⟨b, off, none⟩ ∧ b < w.heap.size ∧ w.cell? ⟨b, off + m, none⟩ = some u ∧ w.ownsRow base 3 1 u l.length (numVals l)
theorem TabAt.tab {w wr : World} {oa : Option Addr} {cap n : Nat} {v : Value} {tab : List (List Nat)} (h : TabAt w wr oa cap n v tab) : ∃ ot ct, v = .slice ot tab.length ct ∧ HoldsTab wr ot tab ∧ OwnsTab wr w.heap.size ot tab := by
  obtain ⟨hs, ⟨hl, h2 | ⟨g, ct, cur, hv, hB, hh, hn, _, hsz, ht⟩⟩, h3⟩ := h.row
  · have e := List.eq_nil_of_length_eq_zero h2.2
    refine ⟨none, 0, by rw [h2.1, h2.2], .inl e, fun m l hm => ?_⟩
    rw [e] at hm
    simp at hm
  · have hc : ∀ (m : Nat) (u : Value), m < tab.length → hs[m]? = some u → wr.cell? ⟨g, 0 + m, none⟩ = some u := by
      intro m u hml k1
      rw [← ht, List.getElem?_take_of_lt (by omega)] at k1
      rw [Nat.zero_add]
      simp [World.cell?, hh]
      simpa using k1
    refine ⟨_, ct, hv, .inr ⟨g, 0, rfl, (Array.getElem?_eq_some_iff.1 hh).1, fun m l hm => ?_⟩, fun m l hm => ?_⟩
    · obtain ⟨u, k1, k2⟩ := h3 m l hm
      obtain ⟨o, c, rfl, k3⟩ := holdsInts_of_owns k2
      exact ⟨o, c, hc m _ (List.getElem?_eq_some_iff.1 hm).1 k1, k3⟩
    · obtain ⟨u, k1, k2⟩ := h3 m l hm
      exact ⟨g, 0, u, rfl, (Array.getElem?_eq_some_iff.1 hh).1, hc m _ (List.getElem?_eq_some_iff.1 hm).1 k1, k2⟩
/-- A list more. -/
theorem TabAt.more {w wr w' : World} {oa : Option Addr} {cap n : Nat} {v v' u : Value} {tab : List (List Nat)} {hs : List Value} {l : List Nat} {o : Obj} (h : TabAt w wr oa cap n v tab)
    (hrow : wr.ownsRow w.heap.size 56 1 v tab.length hs) (hls : ∀ (m : Nat) (l : List Nat), tab[m]? = some l → ∃ u : Value, hs[m]? = some u ∧ wr.ownsRow w.heap.size 3 1 u l.length (numVals l))
    (hu : wr.ownsRow w.heap.size 3 1 u l.length (numVals l)) (hown : w'.ownsRow w.heap.size 56 1 v' (tab.length + 1) (hs ++ [u])) (hg : (wr.alloc o).grownBy w' v.ownBlock) : TabAt w w' oa cap n v' (tab ++ [l]) where
  box := (h.box.alloc o).grown hg (ownsRow_ne h.box (by decide) hrow)
  row := by
    refine ⟨hs ++ [u], by simpa using hown, fun m l' hm => ?_⟩
    have hk : ∀ {q : Value} {l' : List Nat}, wr.ownsRow w.heap.size 3 1 q l'.length (numVals l') → w'.ownsRow w.heap.size 3 1 q l'.length (numVals l') := fun hq => (hq.alloc o).kept hg (ownsRows_ne hq hrow (by decide))
    have hlen : hs.length = tab.length := by have := hrow.1; omega
    by_cases hlt : m < tab.length
    · rw [List.getElem?_append_left hlt] at hm
      obtain ⟨q, k1, k2⟩ := hls m l' hm
      exact ⟨q, by rw [List.getElem?_append_left (by omega)]; exact k1, hk k2⟩
    · obtain rfl : m = tab.length := by
        have := (List.getElem?_eq_some_iff.1 hm).1
        simp at this
        omega
      rw [List.getElem?_append_right (Nat.le_refl _), Nat.sub_self] at hm
      cases hm
      exact ⟨u, by rw [List.getElem?_append_right (by omega), hlen, Nat.sub_self]; rfl, hk hu⟩
  below := h.below.trans (below_append2 hrow hg (Nat.le_refl _) h.below.size)
set_option maxRecDepth 100000 in
set_option maxHeartbeats 8000000 in
theorem specTable_any (ss : List Sc) (hv : Valid ss) (hf : FitsScopes ss) (oa : Option Addr) (cap : Nat) (w : World) (hc : HoldsScopes w oa ss) :
    Calls Tryd.prog 173 #[.agg #[.slice oa ss.length cap]] w fun e w' => ∃ ot ct, e = .returned (.slice ot ss.length ct) ∧ HoldsTab w' ot (tabP ss ss.length) ∧ OwnsTab w' w.heap.size ot (tabP ss ss.length) ∧ Below w.heap.size w w' := by
  have hb0 := ((Below.refl w.heap.size w).alloc (Nat.le_refl _) (.cells #[.slice oa ss.length cap] 30)).alloc (by simp) (.cells #[] 56)
  have hR0 := (Row.new w [.slice oa ss.length cap] 30).alloc (.cells #[] 56)
  have hown0 : ((w.alloc (.cells #[.slice oa ss.length cap] 30)).alloc (.cells #[] 56)).ownsRow w.heap.size 56 1 (.slice (some ⟨w.heap.size + 1, 0, none⟩) 0 0) 0 [] := by
    have h0 := World.ownsRow_made (base := w.heap.size) (e := 56) (size := 1) (w.alloc (.cells #[.slice oa ss.length cap] 30)) #[] 0 (by simp) (by unfold maxLen; omega) rfl
    rw [World.size_alloc] at h0
    exact h0
  have HP0 : Hid (TabAt w ((w.alloc (.cells #[.slice oa ss.length cap] 30)).alloc (.cells #[] 56)) oa cap ss.length (.slice (some ⟨w.heap.size + 1, 0, none⟩) 0 0) (tabP ss 0)) := Lib.hid ⟨hR0, ⟨[], hown0, fun m l h => by simp [tabP] at h⟩, hb0⟩
  have HC := Lib.hid hc
  have HV := Lib.hid hv
  have HF := Lib.hid hf
  have h6 := hv.count.2
  have g00 := hR0.cell (i := 0) (by rfl)
  clear hv hc hf hb0 hR0 hown0
  go_enter Tryd.func173, Tryd.ntmps173
  go_wp2
  go_loopw [3, 15] (fun v i wr => ∃ k : Nat, i = .int .i64 k ∧ k ≤ ss.length ∧ Hid (TabAt w wr oa cap ss.length v (tabP ss k))) (fun _ i _ => ss.length - (intOf i).toNat)
  case atStart => exact ⟨0, rfl, Nat.zero_le _, HP0⟩
  case round =>
    obtain ⟨k, rfl, hk, hP⟩ := hrel
    obtain ⟨W0, rfl⟩ : ∃ x, x = wr := ⟨wr, rfl⟩
    obtain ⟨ot, ct, hvv, htab, hto⟩ := hP.out.tab
    rw [tabP_length] at hvv
    subst hvv
    have HTB := Lib.hid htab
    have HTO := Lib.hid hto
    clear hto
    by_cases hlt : k < ss.length
    · obtain ⟨c, hck⟩ : ∃ c, ss[k]? = some c := ⟨_, List.getElem?_eq_getElem hlt⟩
      obtain ⟨bb, off, rfl, hbb, hcell⟩ := HC.out.at (by omega)
      obtain ⟨oi, ci, a0, a1, hci⟩ := hcell k c hck
      have hil := HV.out.five c (List.mem_of_getElem? hck)
      have b0 := (hP.out.below.cell (p := ⟨bb, off + k * 2, none⟩) hbb).trans a0
      have b1 := (hP.out.below.cell (p := ⟨bb, off + k * 2 + 1, none⟩) hbb).trans a1
      have hbx := ((Below.refl W0.heap.size W0).alloc (Nat.le_refl _) (.cells #[.int .i64 c.parent, .slice oi c.items.length ci] 69)).alloc (by simp) (.cells #[] 3)
      have hown1 : ((W0.alloc (.cells #[.int .i64 c.parent, .slice oi c.items.length ci] 69)).alloc (.cells #[] 3)).ownsRow W0.heap.size 3 1 (.slice (some ⟨W0.heap.size + 1, 0, none⟩) 0 0) 0 [] := by
        have h0 := World.ownsRow_made (base := W0.heap.size) (e := 3) (size := 1) (W0.alloc (.cells #[.int .i64 c.parent, .slice oi c.items.length ci] 69)) #[] 0 (by simp) (by unfold maxLen; omega) rfl
        rw [World.size_alloc] at h0
        exact h0
      have HS := Lib.hid (And.intro hown1 hbx)
      have HI := Lib.hid hci
      have HCK := Lib.hid hck
      have HIT := Lib.hid (itemsP_of hck)
      have hW0 := hP.out.below.size
      clear hcell hci a0 a1 hbx hown1 htab hck
      go_wp2
      go_loopw [6, 24] (fun u i wr => ∃ j : Nat, i = .int .i64 j ∧ j ≤ c.items.length ∧ Hid (wr.ownsRow W0.heap.size 3 1 u (impUp ss (impP ss) k c.items j).length (numVals (impUp ss (impP ss) k c.items j)) ∧ Below W0.heap.size W0 wr)) (fun _ i _ => c.items.length - (intOf i).toNat)
      case atStart => exact ⟨0, rfl, Nat.zero_le _, HS⟩
      case round =>
        obtain ⟨j, rfl, hj, hU⟩ := hrel
        by_cases hlt2 : j < c.items.length
        · obtain ⟨x, hx⟩ : ∃ x, c.items[j]? = some x := ⟨_, List.getElem?_eq_getElem hlt2⟩
          obtain ⟨b2, o2, rfl, hb2, hcell2⟩ := HI.out.at (by omega)
          obtain ⟨x0, x1, x2⟩ := hcell2 j x hx
          have HBW := Lib.hid (hP.out.below.trans (hU.out.2.mono hP.out.below.size))
          have y0 := (HBW.out.cell (p := ⟨b2, o2 + j * 3, none⟩) hb2).trans x0
          have y1 := (HBW.out.cell (p := ⟨b2, o2 + j * 3 + 1, none⟩) hb2).trans x1
          have y2 := (HBW.out.cell (p := ⟨b2, o2 + j * 3 + 2, none⟩) hb2).trans x2
          have hbi := (Below.refl wr.heap.size wr).alloc (Nat.le_refl _) (.cells #[.int .i64 x.kind, .string x.name, .int .i64 x.scope] 60)
          have HBI := Lib.hid (hU.out.2.trans (hbi.mono hU.out.2.size))
          have HUI := Lib.hid (ownsRow_below hU.out.1 hbi)
          have hul := impUp_length (ss := ss) k c.items j
          have HST := Lib.hid (impUp_snoc (ss := ss) (imps := impP ss) (s := k) hx)
          have HXX := Lib.hid hx
          clear hx hcell2 x0 x1 x2 hbi
          by_cases hkd : x.kind = 3
          · have hq : (x.kind == 3) = true := by simpa using hkd
            have HKD := Lib.hid hkd
            have HT1 := Lib.hid (hP.out.step HBI.out)
            have C2 := Lib.hid (specMeantBy_any ss HV.out (some ⟨bb, off, none⟩) cap k (by omega) ot ct k (Nat.le_refl _) hlt x.name _ (HC.out.below HT1.out.below (Nat.le_refl _)) (HTB.out.below HBI.out))
            have RI := Lib.hid (Row.new wr [.int .i64 x.kind, .string x.name, .int .i64 x.scope] 60)
            have g1 := HT1.out.box.cell (i := 0) (by rfl)
            clear hkd
            go_wp2_with fail
            refine C2.out.mono ?_
            rintro e w3 ⟨v3, rfl, hrow3, hb3⟩
            obtain ⟨o3, c3, rfl, harg⟩ := argPlaces_of_owns hrow3
            have HT3 := Lib.hid (HT1.out.step hb3)
            have HB3 := Lib.hid (HBI.out.trans (hb3.mono HBI.out.size))
            have HU3 := Lib.hid (ownsRow_below HUI.out hb3)
            have HA3 := Lib.hid harg
            have hml : (meantP ss k x.name).length ≤ 25 := by
              unfold meantP meantF
              split
              · split
                · simp
                · exact lookF_length HV.out _ _
              · have := ownP_length HV.out k x.name; omega
            clear hb3 hrow3 harg g1 y0 y1 y2
            by_cases h1 : (meantP ss k x.name).length = 1
            · obtain ⟨p, hp⟩ := List.length_eq_one_iff.1 h1
              obtain ⟨i2, j2, c2, y, rfl, hc2, hy2⟩ := meant_isPlace p (by rw [hp]; exact List.mem_singleton.2 rfl)
              have HTG : Hid (targetP ss k x.name = y.scope) := Lib.hid (by rw [targetP_one hp, scopeAt_of hc2 hy2])
              have hTO := target_ok HV.out k x.name
              rw [HTG.out] at hTO
              obtain ⟨b5, f5, rfl, hb5, q5⟩ := HA3.out.at (by omega)
              obtain ⟨r0, r1⟩ := q5 0 ((i2 : Int), (j2 : Int)) (by rw [hp]; rfl)
              rw [Nat.zero_mul, Nat.add_zero] at r0 r1
              have g3 := HT3.out.box.cell (i := 0) (by rfl)
              have C3 := fun W (hbW : Below w.heap.size w W) => specAt_any ss HF.out (some ⟨bb, off, none⟩) cap i2 j2 c2 y hc2 hy2 W (HC.out.below hbW (Nat.le_refl _))
              have HC3 := Lib.hid C3
              clear C3 hp hc2 hy2 q5
              rw [h1]
              go_wp2
              go_cut [10] (fun s10 wx => s10 = .int .i64 y.scope ∧ Below w3.heap.size w3 wx)
              case first =>
                go_region_held3 (fun w' => w'.cell? ⟨w.heap.size, 0, none⟩ = some (.slice (some ⟨bb, off, none⟩) ss.length cap) ∧ w'.cell? ⟨b5, f5, none⟩ = some (.int .i64 (i2 : Int)) ∧ w'.cell? ⟨b5, f5 + 1, none⟩ = some (.int .i64 (j2 : Int)))
                  (first | exact ⟨g3, r0, r1⟩ | exact ⟨cell_drew g3, cell_drew r0, cell_drew r1⟩ | exact ⟨cell_grow hb4 (cell_drew g3), cell_grow hb4 (cell_drew r0), cell_grow hb4 (cell_drew r1)⟩)
                  (first | (go_at_call 116; refine (HC3.out _ HT3.out.below.drew).mono ?_; rintro e w4 ⟨rfl, hb4⟩; unfold itV))
                all_goals go_wp2
                all_goals go_meet
                all_goals exact ⟨rfl, ((Below.refl _ _).drew).trans hb4⟩
              case rest =>
                obtain ⟨rfl, hbc⟩ := hcut
                have HT4 := Lib.hid (HT3.out.step hbc)
                have HB4 := Lib.hid (HB3.out.trans (hbc.mono HB3.out.size))
                have hu4 := ownsRow_below HU3.out hbc
                obtain ⟨ou, cu, rfl, hh4⟩ := holdsInts_of_owns hu4
                have HU4 := Lib.hid hu4
                have HH4 := Lib.hid hh4
                have HNL : Hid ((natInts (impUp ss (impP ss) k c.items j)).length < 2 ^ 40) := Lib.hid (by rw [natInts_length]; omega)
                clear hbc hu4 hh4 g3 r0 r1
                rcases hTO with ht | ⟨m, ht, hm⟩
                · have HE : Hid (impUp ss (impP ss) k c.items (j + 1) = impUp ss (impP ss) k c.items j) := Lib.hid (by rw [HST.out, impStep_none (HTG.out.trans ht)])
                  rw [ht]
                  go_wp2
                  go_roundw
                  case rel => exact ⟨j + 1, by go_num, by omega, Lib.hid (by rw [HE.out]; exact ⟨HU4.out, HB4.out⟩)⟩
                  case measure => simp only [intOf]; omega
                · rw [ht]
                  go_wp2_with fail
                  refine (l2In_any (natInts (impUp ss (impP ss) k c.items j)) ou cu (m : Int) _ HNL.out HH4.out).mono ?_
                  rintro e w5 ⟨rfl, hb5⟩
                  have HB5 := Lib.hid (HB4.out.trans (hb5.mono HB4.out.size))
                  have HU5 := Lib.hid (ownsRow_below HU4.out hb5)
                  obtain ⟨q, hq2⟩ : ∃ q, decide ((m : Int) ∈ natInts (impUp ss (impP ss) k c.items j)) = q := ⟨_, rfl⟩
                  rw [hq2]
                  have HQ := Lib.hid hq2
                  clear hb5 hq2
                  cases q
                  · have HNI : Hid (m ∉ impUp ss (impP ss) k c.items j) := Lib.hid (fun h => by have := HQ.out; simp [mem_natInts.2 h] at this)
                    have HE : Hid (impUp ss (impP ss) k c.items (j + 1) = impUp ss (impP ss) k c.items j ++ [m]) := Lib.hid (by rw [HST.out, impStep_new HKD.out (HTG.out.trans ht) HNI.out])
                    obtain ⟨i0, hi0, hz0, hz1, hz2⟩ := info_parts infoInt
                    have hbs5 := HB5.out.size
                    go_wp2_with (at_builtin; refine wpList_append_own _ rfl _ _ 56 rfl W0.heap.size 3 i0 (.int .i64 0) 1 8 Tryd.underlying56 hi0 hz0 hz1 hz2 rfl (by decide) _ _ _ rfl (HU5.out.alloc _) ⟨w5.heap.size, 0, none⟩ 1 1 [.int .i64 (m : Int)] rfl rfl ?c1 ?c2 ?c3 ?c4 ?c5 ?_)
                    case c1 => exact cells_new _ _ _
                    case c2 => intro u hu; simp only [List.mem_singleton] at hu; subst hu; rfl
                    case c3 => unfold maxLen; omega
                    case c4 => omega
                    case c5 => simp only [World.size_alloc]; omega
                    intro v' w6 hown' hgrow _
                    have HB6 := Lib.hid (HB5.out.trans (below_append HU5.out hgrow (Nat.le_refl W0.heap.size) hbs5))
                    have HU6 := Lib.hid hown'
                    clear hown' hgrow
                    go_wp2
                    go_roundw
                    case rel => exact ⟨j + 1, by go_num, by omega, Lib.hid (by rw [HE.out, List.length_append, numVals_snoc]; exact ⟨HU6.out, HB6.out⟩)⟩
                    case measure => simp only [intOf]; omega
                  · have HNI : Hid (m ∈ impUp ss (impP ss) k c.items j) := Lib.hid (mem_natInts.1 (by have := HQ.out; simpa using this))
                    have HE : Hid (impUp ss (impP ss) k c.items (j + 1) = impUp ss (impP ss) k c.items j) := Lib.hid (by rw [HST.out, impStep_in (HTG.out.trans ht) HNI.out])
                    go_wp2
                    go_roundw
                    case rel => exact ⟨j + 1, by go_num, by omega, Lib.hid (by rw [HE.out]; exact ⟨HU5.out, HB5.out⟩)⟩
                    case measure => simp only [intOf]; omega
            · have HE : Hid (impUp ss (impP ss) k c.items (j + 1) = impUp ss (impP ss) k c.items j) := Lib.hid (by rw [HST.out, impStep_none (targetP_not h1)])
              have hne : (((meantP ss k x.name).length : Int) == 1) = false := by simp; omega
              go_wp2
              go_roundw
              case rel => exact ⟨j + 1, by go_num, by omega, Lib.hid (by rw [HE.out]; exact ⟨HU3.out, HB3.out⟩)⟩
              case measure => simp only [intOf]; omega
          · have hq : (x.kind == 3) = false := by simpa using hkd
            have HE : Hid (impUp ss (impP ss) k c.items (j + 1) = impUp ss (impP ss) k c.items j) := Lib.hid (by rw [HST.out, impStep_other hkd])
            clear hkd
            go_wp2
            go_roundw
            case rel => exact ⟨j + 1, by go_num, by omega, Lib.hid (by rw [HE.out]; exact ⟨HUI.out, HBI.out⟩)⟩
            case measure => simp only [intOf]; omega
        · obtain rfl : j = c.items.length := by omega
          have HP6 := Lib.hid (hP.out.step (hU.out.2))
          obtain ⟨ou, cu, rfl, _⟩ := holdsInts_of_owns hU.out.1
          have HUL : Hid (wr.ownsRow w.heap.size 3 1 (.slice ou (natInts (impUp ss (impP ss) k c.items c.items.length)).length cu) (impF ss (impP ss) k).length (numVals (impF ss (impP ss) k))) := Lib.hid (by
            have h := ownsRow_lower hU.out.1 hP.out.below.size
            unfold impF
            rw [HIT.out]
            exact h)
          obtain ⟨hs, hrw, hls⟩ := HP6.out.row
          have HHS := Lib.hid (And.intro hrw hls)
          have hrw2 := hrw
          rw [tabP_length] at hrw2
          have HRW := Lib.hid hrw2
          have hbs6 := HP6.out.below.size
          obtain ⟨i0, hi0, hz0, hz1, hz2⟩ := info_parts infoSl
          clear hrw hls hrw2
          go_wp2_with (at_builtin; refine wpList_append_own _ rfl _ _ 209 rfl w.heap.size 56 i0 (.slice none 0 0) 1 24 Tryd.underlying209 hi0 hz0 hz1 hz2 rfl (by decide) _ _ _ rfl (HRW.out.alloc _) ⟨wr.heap.size, 0, none⟩ 1 1 [.slice ou (natInts (impUp ss (impP ss) k c.items c.items.length)).length cu] rfl rfl ?c1 ?c2 ?c3 ?c4 ?c5 ?_)
          case c1 => exact cells_new _ _ _
          case c2 => intro u' hu; simp only [List.mem_singleton] at hu; subst hu; rfl
          case c3 => unfold maxLen; omega
          case c4 => omega
          case c5 => simp only [World.size_alloc]; omega
          intro v' w6 hown' hgrow _
          have HNEW : Hid (TabAt w w6 (some ⟨bb, off, none⟩) cap ss.length v' (tabP ss (k + 1))) := Lib.hid (by
            rw [tabP_snoc HV.out.climbs]
            exact HP6.out.more HHS.out.1 HHS.out.2 HUL.out (by rw [tabP_length]; exact hown') hgrow)
          clear hown' hgrow
          go_wp2
          go_roundw
          case rel => exact ⟨k + 1, by go_num, by omega, HNEW⟩
          case measure => simp only [intOf]; omega
    · obtain rfl : k = ss.length := by omega
      go_wp2
      go_ret
      exact ⟨_, _, rfl, HTB.out, HTO.out, hP.out.below⟩
end Go.Proofs.YtppgdigcopkeiaaDoor
