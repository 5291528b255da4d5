/-
  The walks of HiddenFrom, the given one's and impl's. Conditions: the argument's memory holds the graph; the package-level errors hold errors.
-/
import Derived.Test.YtoijapbffhkbbaaDoorSeenI
import Derived.Test.YtoijapbffhkbbaaDoorWSpecWithin
import Derived.Test.YtoijapbffhkbbaaDoorWSet
namespace Go.Proofs.YtoijapbffhkbbaaDoor
open Go Go.RowKit
theorem placed_weightH : ∀ (i : Nat) (ss : List Sc), (placed i ss).length ≤ wScopes ss
  | _, [] => by simp [placed]
  | i, s :: r => by
    have ih := placed_weightH (i + 1) r
    have h1 := wItems_eq s.items
    simp only [placed, List.length_append, List.length_map, List.length_zipIdx, wScopes]
    omega
set_option maxRecDepth 100000 in
set_option maxHeartbeats 1600000 in
theorem l1PlacesW_any (ss : List Sc) (hn6 : ss.length ≤ 1048576) (hm5 : ∀ s ∈ ss, s.items.length ≤ 1048576) (hpw : (placed 0 ss).length ≤ 1048576) (oa : Option Addr) (cap : Nat) (kind : Int) (w : World) (hc : HoldsScopes w oa ss) :
    Calls Tryd.prog 73 #[.agg #[.slice oa ss.length cap], .int .i64 kind] w (PlsGot (plsP ss kind) w) := by
  have hb0 := ((Below.refl w.heap.size w).alloc (Nat.le_refl _) (.cells #[.slice oa ss.length cap] 30)).alloc (by simp) (.cells #[] 43)
  have hR0 := (Row.new w [.slice oa ss.length cap] 30).alloc (.cells #[] 43)
  have hown0 : ((w.alloc (.cells #[.slice oa ss.length cap] 30)).alloc (.cells #[] 43)).ownsRow w.heap.size 43 2 (.slice (some ⟨w.heap.size + 1, 0, none⟩) 0 0) 0 [] := by
    have h0 := World.ownsRow_made (base := w.heap.size) (e := 43) (size := 2) (w.alloc (.cells #[.slice oa ss.length cap] 30)) #[] 0 (by simp) (by unfold maxLen; omega) rfl
    rw [World.size_alloc] at h0
    exact h0
  have HP0 : Hid (PlsAt w ((w.alloc (.cells #[.slice oa ss.length cap] 30)).alloc (.cells #[] 43)) oa cap ss.length (.slice (some ⟨w.heap.size + 1, 0, none⟩) 0 0) []) := Lib.hid ⟨hR0, hown0, hb0⟩
  have HC := Lib.hid hc
  have HM := Lib.hid hm5
  have g00 := hR0.cell (i := 0) (by rfl)
  clear hc hm5 hb0 hR0 hown0
  go_enter Tryd.func73, Tryd.ntmps73
  go_wp2
  go_loopw [5, 14] (fun v i wr => ∃ k : Nat, i = .int .i64 k ∧ k ≤ ss.length ∧ Hid (PlsAt w wr oa cap ss.length v (plsOf kind (uptoP ss k 0)))) (fun _ i _ => ss.length - (intOf i).toNat)
  case atStart => exact ⟨0, rfl, Nat.zero_le _, Lib.hid (by rw [uptoP_start]; exact HP0.out)⟩
  case round =>
    obtain ⟨k, rfl, hk, hP⟩ := hrel
    by_cases hlt : k < ss.length
    · obtain ⟨s, hs⟩ : ∃ s, ss[k]? = some s := ⟨_, List.getElem?_eq_getElem hlt⟩
      obtain ⟨bb, off, rfl, hbb, hcell⟩ := HC.out.at (by omega)
      obtain ⟨oi, ci, a0, a1, hci⟩ := hcell k s hs
      have hil := HM.out s (List.mem_of_getElem? hs)
      have b0 := (hP.out.below.cell (p := ⟨bb, off + k * 2, none⟩) hbb).trans a0
      have b1 := (hP.out.below.cell (p := ⟨bb, off + k * 2 + 1, none⟩) hbb).trans a1
      have HS := Lib.hid hs
      have HI := Lib.hid hci
      have hbx := (Below.refl wr.heap.size wr).alloc (Nat.le_refl _) (.cells #[.int .i64 s.parent, .slice oi s.items.length ci] 65)
      have HP1 := Lib.hid (hP.out.step hbx)
      have hwr := hP.out.below.size
      clear hs hcell hci a0 a1 hbx
      go_wp2
      go_loopw [5, 22] (fun v i wr => ∃ j : Nat, i = .int .i64 j ∧ j ≤ s.items.length ∧ Hid (PlsAt w wr (some ⟨bb, off, none⟩) cap ss.length v (plsOf kind (uptoP ss k j)))) (fun _ i _ => s.items.length - (intOf i).toNat)
      case atStart => exact ⟨0, rfl, Nat.zero_le _, HP1⟩
      case round =>
        obtain ⟨j, rfl, hj, hP2⟩ := hrel
        by_cases hlt2 : j < s.items.length
        · obtain ⟨x, hx⟩ : ∃ x, s.items[j]? = some x := ⟨_, List.getElem?_eq_getElem hlt2⟩
          obtain ⟨b2, o2, rfl, hb2, hcell2⟩ := HI.out.at (by omega)
          obtain ⟨x0, x1, x2⟩ := hcell2 j x hx
          have y0 := (hP2.out.below.cell (p := ⟨b2, o2 + j * 3, none⟩) hb2).trans x0
          have y1 := (hP2.out.below.cell (p := ⟨b2, o2 + j * 3 + 1, none⟩) hb2).trans x1
          have y2 := (hP2.out.below.cell (p := ⟨b2, o2 + j * 3 + 2, none⟩) hb2).trans x2
          have hbx := (Below.refl wr.heap.size wr).alloc (Nat.le_refl _) (.cells #[.int .i64 x.kind, .string x.name, .int .i64 x.scope] 57)
          have HP3 := Lib.hid (hP2.out.step hbx)
          have hpl := Nat.le_trans (plsOf_length kind (uptoP ss k j)) (Nat.le_trans (uptoP_prefix (j := j) HS.out).length_le hpw)
          have HST := Lib.hid (plsOf_snoc kind (uptoP ss k j) (k, j, x))
          have HNX := Lib.hid (uptoP_next HS.out hx)
          clear hx hcell2 x0 x1 x2 hbx
          by_cases he : x.kind = kind
          · have hq : (x.kind == kind) = true := by simpa using he
            have HE : Hid (plsOf kind (uptoP ss k (j + 1)) = plsOf kind (uptoP ss k j) ++ [((k : Int), (j : Int))]) := Lib.hid (by rw [HNX.out, HST.out, if_pos he])
            generalize hpe : plsOf kind (uptoP ss k j) = pre at hpl
            rw [hpe] at HP3 HE
            have hrow3 := HP3.out.row
            obtain ⟨i0, hi0, hz0, hz1, hz2⟩ := info_parts infoPl
            have hbs3 := HP3.out.below.size
            have hbs2 := hP2.out.below.size
            clear hpe he
            go_wp2_with (at_builtin; refine wpList_append_own _ rfl _ _ 34 rfl w.heap.size 43 i0 (.agg #[.int .i64 0, .int .i64 0]) 2 16 Tryd.underlying34 hi0 hz0 hz1 hz2 rfl (by decide) _ _ _ rfl (hrow3.alloc _) ⟨wr.heap.size + 1, 0, none⟩ 1 1 [.int .i64 (k : Int), .int .i64 (j : Int)] rfl rfl ?c1 ?c2 ?c3 ?c4 ?c5 ?_)
            all_goals try (case c1 => exact cells_new2 _ _ _ _)
            all_goals try (case c2 => first | (exact ⟨rfl, rfl⟩) | (intro u hu; simp only [List.mem_cons, List.mem_nil_iff, or_false] at hu; rcases hu with rfl | rfl <;> rfl))
            all_goals try (case c3 => unfold maxLen; omega)
            all_goals try (case c4 => omega)
            all_goals try (case c5 => first | omega | (simp only [World.size_alloc]; omega) | (simp; omega))
            intro v' w' hown' hgrow _
            have HP4 : Hid (PlsAt w w' (some ⟨bb, off, none⟩) cap ss.length v' (plsOf kind (uptoP ss k (j + 1)))) := Lib.hid {
              box := (HP3.out.box.alloc (.cells #[.int .i64 (k : Int), .int .i64 (j : Int)] 43)).grown hgrow (ownsRow_ne2 HP3.out.box (by decide) HP3.out.row)
              row := by rw [HE.out, List.length_append, placeCells_snoc]; exact hown'
              below := HP3.out.below.trans (below_append2 HP3.out.row hgrow (Nat.le_refl w.heap.size) hbs3) }
            clear hown' hgrow hrow3
            go_wp2
            go_roundw
            case rel => exact ⟨j + 1, by go_num, by omega, HP4⟩
            case measure => simp only [intOf]; omega
          · have hq : (x.kind == kind) = false := by simpa using he
            have HE : Hid (plsOf kind (uptoP ss k (j + 1)) = plsOf kind (uptoP ss k j)) := Lib.hid (by rw [HNX.out, HST.out, if_neg he, List.append_nil])
            clear he
            go_wp2
            go_roundw
            case rel => exact ⟨j + 1, by go_num, by omega, by rw [HE.out]; exact HP3⟩
            case measure => simp only [intOf]; omega
        · obtain rfl : j = s.items.length := by omega
          have HP2 : Hid (PlsAt w wr (some ⟨bb, off, none⟩) cap ss.length _ (plsOf kind (uptoP ss (k + 1) 0))) := Lib.hid (by have := hP2.out; rw [uptoP_scope HS.out] at this; exact this)
          go_wp2
          go_roundw
          case rel => exact ⟨k + 1, by go_num, by omega, HP2⟩
          case measure => simp only [intOf]; omega
    · obtain rfl : k = ss.length := by omega
      have HE := Lib.hid (uptoP_all ss)
      go_wp2
      go_ret
      exact ⟨_, rfl, by have := hP.out.row; rw [HE.out] at this; exact this, hP.out.below⟩

/-- Numbers that lie apart from a row of one's own. -/
structure AsideI (W : World) (v : Value) (ol : Option Addr) (l : List Int) : Prop where
  args : HoldsInts W ol l
  ne : ∀ g, v.ownBlock = some g → ∀ b off, ol = some ⟨b, off, none⟩ → g ≠ b
  lt : ∀ b off, ol = some ⟨b, off, none⟩ → b < W.heap.size
theorem AsideI.below {W W' : World} {v : Value} {ol : Option Addr} {l : List Int} (h : AsideI W v ol l) (hb : Below W.heap.size W W') : AsideI W' v ol l :=
  ⟨h.args.below hb, h.ne, fun b off e => Nat.lt_of_lt_of_le (h.lt b off e) hb.size⟩
theorem HoldsInts.grown {W W' : World} {oa : Option Addr} {l : List Int} {row : Option Nat} (h : HoldsInts W oa l) (hg : W.grownBy W' row) (hne : ∀ g, row = some g → ∀ b off, oa = some ⟨b, off, none⟩ → g ≠ b) : HoldsInts W' oa l := by
  rcases h with h | ⟨b, off, rfl, hlt, hp⟩
  · exact .inl h
  · have hbk := hg.block b hlt (fun e => hne b e.symm b off rfl rfl)
    exact .inr ⟨b, off, rfl, Nat.lt_of_lt_of_le hlt hg.size, fun i p hi => (World.cell?_of_block (a := ⟨b, off + i, none⟩) hbk).trans (hp i p hi)⟩
theorem AsideI.grown {W W' : World} {v v' : Value} {ol : Option Addr} {l : List Int} {x y : Int} (h : AsideI W v ol l) (hg : (W.alloc (.cells #[.int .i64 x, .int .i64 y] 43)).grownBy W' v.ownBlock) (hw : v'.ownBlock = v.ownBlock ∨ v'.ownBlock = some (W.heap.size + 1)) : AsideI W' v' ol l := by
  have h1 := h.below ((Below.refl _ _).alloc (Nat.le_refl _) (.cells #[.int .i64 x, .int .i64 y] 43))
  refine ⟨h1.args.grown hg h1.ne, fun g hgo b off e => ?_, fun b off e => Nat.lt_of_lt_of_le (h1.lt b off e) hg.size⟩
  rcases hw with hw | hw
  · exact h.ne g (hw ▸ hgo) b off e
  · have := h.lt b off e
    rw [hw] at hgo
    simp only [Option.some.injEq] at hgo
    omega
set_option maxRecDepth 100000 in
set_option maxHeartbeats 4000000 in
theorem specHiddenFrom_any (ss : List Sc) (hF : Fair ss) (hw : wScopes ss ≤ 1048576) (oa : Option Addr) (cap : Nat) (n : Int) (w : World) (hc : HoldsScopes w oa ss) :
    Calls Tryd.prog 26 #[.agg #[.slice oa ss.length cap], .int .i64 n] w (PlGot2 (HasScope ss n) (filtL (hidB ss n.toNat) (placed 0 ss)) w) := by
  have hb0 := ((Below.refl w.heap.size w).alloc (Nat.le_refl _) (.cells #[.slice oa ss.length cap] 30)).alloc (by simp) (.cells #[] 43)
  have hR0 := (Row.new w [.slice oa ss.length cap] 30).alloc (.cells #[] 43)
  have hown0 : ((w.alloc (.cells #[.slice oa ss.length cap] 30)).alloc (.cells #[] 43)).ownsRow w.heap.size 43 2 (.slice (some ⟨w.heap.size + 1, 0, none⟩) 0 0) 0 [] := by
    have h0 := World.ownsRow_made (base := w.heap.size) (e := 43) (size := 2) (w.alloc (.cells #[.slice oa ss.length cap] 30)) #[] 0 (by simp) (by unfold maxLen; omega) rfl
    rw [World.size_alloc] at h0
    exact h0
  have HP0 : Hid (PlsAt w ((w.alloc (.cells #[.slice oa ss.length cap] 30)).alloc (.cells #[] 43)) oa cap ss.length (.slice (some ⟨w.heap.size + 1, 0, none⟩) 0 0) []) := Lib.hid ⟨hR0, hown0, hb0⟩
  have C := Lib.hid (specChain_any ss hF.fits oa cap n _ (hc.below hb0 (Nat.le_refl _)))
  have HC := Lib.hid hc
  have HF := Lib.hid hF.fits
  have HFF := Lib.hid hF
  have HWW := Lib.hid hw
  have g00 := hR0.cell (i := 0) (by rfl)
  clear hF hw hc hb0 hR0 hown0
  go_enter Tryd.func26, Tryd.ntmps26
  go_wp2_with fail
  refine C.out.mono ?_
  rintro e w1 (⟨hno, gz, rfl, hb⟩ | ⟨hv, vc, rfl, hvc, hb⟩)
  · have HN := Lib.hid hno
    have HP1 := Lib.hid (HP0.out.step hb)
    have c1 := HP1.out.box.cell (i := 0) (by rfl)
    clear hno hb g00
    go_wp2_with fail
    refine (l1PlacesW_any ss HFF.out.count (fun s hs => HFF.out.items s hs) (Nat.le_trans (placed_weightH 0 ss) HWW.out) oa cap 1 _ (HC.out.below HP1.out.below (Nat.le_refl _))).mono ?_
    rintro e w2 ⟨vl, rfl, hvl, hb2⟩
    obtain ⟨ol, cl, rfl, hap⟩ := argPlaces_of_owns hvl
    have HAP := Lib.hid hap
    have HP2 := Lib.hid (HP1.out.step hb2)
    have hpl : (plsP ss 1).length ≤ 1048576 := Nat.le_trans (plsOf_length 1 (placed 0 ss)) (Nat.le_trans (placed_weightH 0 ss) HWW.out)
    clear hvl hap hb2 c1
    go_wp2
    go_loopw [6, 21] (fun v i wr => ∃ k : Nat, v = .slice (some ⟨w.heap.size + 1, 0, none⟩) 0 0 ∧ i = .int .i64 k ∧ k ≤ (plsP ss 1).length ∧ Hid (Below w2.heap.size w2 wr)) (fun _ i _ => (plsP ss 1).length - (intOf i).toNat)
    case atStart => exact ⟨0, rfl, rfl, Nat.zero_le _, Lib.hid (Below.refl _ _)⟩
    case round =>
      obtain ⟨k, rfl, rfl, hk, HW⟩ := hrel
      by_cases hlt : k < (plsP ss 1).length
      · obtain ⟨p, hp⟩ : ∃ p, (plsP ss 1)[k]? = some p := ⟨_, List.getElem?_eq_getElem hlt⟩
        obtain ⟨pa, pb⟩ := p
        obtain ⟨b1, f1, rfl, hb1, q1⟩ := (HAP.out.below HW.out).at (by omega)
        obtain ⟨c0, c1⟩ := q1 k _ hp
        have hbP := (Below.refl wr.heap.size wr).alloc (Nat.le_refl _) (.cells #[.int .i64 pa, .int .i64 pb] 43)
        have HW2 := Lib.hid (HW.out.trans (hbP.mono HW.out.size))
        dsimp only at c0 c1
        clear hp q1 hb1 hbP
        go_wp2_with fail
        refine (l2In_any [] (some ⟨gz, 0, none⟩) 0 pa _ (by decide) (.inl rfl)).mono ?_
        rintro e w4 ⟨rfl, hb4⟩
        have HW4 := Lib.hid (HW2.out.trans (hb4.mono HW2.out.size))
        have hdf : decide (pa ∈ ([] : List Int)) = false := by simp
        rw [hdf]
        clear hb4 c0 c1 hdf
        go_wp2
        go_roundw
        case rel => exact ⟨k + 1, rfl, by go_num, by omega, HW4⟩
        case measure => simp only [intOf]; omega
      · obtain rfl : k = (plsP ss 1).length := by omega
        go_wp2
        go_ret2
        exact .inl ⟨HN.out, _, rfl, HP2.out.below.trans (HW.out.mono HP2.out.below.size)⟩
  · have HP1 := Lib.hid (HP0.out.step hb)
    have HPS : Hid (w.heap.size + 1 + 1 ≤ w1.heap.size) := Lib.hid (by have := hb.size; simp at this; omega)
    have c1 := HP1.out.box.cell (i := 0) (by rfl)
    have HH := Lib.hid hv
    obtain ⟨oc, cc, rfl, hci⟩ := holdsInts_of_owns hvc
    have HCI : Hid (AsideI w1 (.slice (some ⟨w.heap.size + 1, 0, none⟩) 0 0) oc (natInts (chainP ss n.toNat))) := Lib.hid ⟨hci, by
      rintro g hg b off rfl
      have h1 := owns_block2 hvc
      simp only [Value.ownBlock, Option.some.injEq] at hg
      simp at h1
      omega, by
      rintro b off rfl
      exact owns_lt2 hvc⟩
    clear hb hv g00 hvc hci
    obtain ⟨s, rfl⟩ : ∃ s : Nat, n = (s : Int) := ⟨n.toNat, by have := HH.out.2.1; omega⟩
    rw [Int.toNat_natCast] at HCI ⊢
    have HSL : Hid (s < ss.length) := Lib.hid (by have := HH.out.2.2; omega)
    have hcl : (natInts (chainP ss s)).length ≤ 6 := by
      have h1 := chain_bound HH.out.1.climbs (s := s) HSL.out
      have h2 := HH.out.1.count.2
      rw [natInts_length]
      omega
    have hdl := decls_short HH.out.1
    have HFD := Lib.hid (filtL_decls (hid_kind (ss := ss) (s := s)) ss)
    go_wp2_with fail
    refine (l1Places_any ss HH.out.1.count.2 HH.out.1.five oa cap 1 _ (HC.out.below HP1.out.below (Nat.le_refl _))).mono ?_
    rintro e w2 ⟨vl, rfl, hvl, hb2⟩
    obtain ⟨ol, cl, rfl, hap⟩ := argPlaces_of_owns hvl
    have HAP : Hid (Aside w2 (.slice (some ⟨w.heap.size + 1, 0, none⟩) 0 0) ol (plsP ss 1)) := Lib.hid ⟨hap, by
      rintro g hg b off rfl
      have h1 := owns_block2 hvl
      have h2 := HP1.out.row.1
      have h3 := HPS.out
      simp only [Value.ownBlock, Option.some.injEq] at hg
      omega, by
      rintro b off rfl
      rcases hap with h0 | ⟨b', off', e, hlt, _⟩
      · exact owns_lt2 hvl
      · cases e; exact hlt⟩
    have HCI2 := Lib.hid (HCI.out.below hb2)
    have HP2 := Lib.hid (HP1.out.step hb2)
    have HNL : Hid ((plsP ss 1).length = (declsP ss).length) := Lib.hid (by rw [declsP_map, List.length_map])
    have hpl : (plsP ss 1).length ≤ 30 := by rw [HNL.out]; exact hdl
    clear hvl hap hb2 c1
    go_wp2
    go_loopw [6, 21] (fun v i wr => ∃ k : Nat, i = .int .i64 k ∧ k ≤ (plsP ss 1).length ∧ Hid (PlsAt w wr oa cap ss.length v (filtL (hidB ss s) ((declsP ss).take k)) ∧ Aside wr v ol (plsP ss 1) ∧ AsideI wr v oc (natInts (chainP ss s)))) (fun _ i _ => (plsP ss 1).length - (intOf i).toNat)
    case atStart => exact ⟨0, rfl, Nat.zero_le _, Lib.hid ⟨HP2.out, HAP.out, HCI2.out⟩⟩
    case round =>
      obtain ⟨k, rfl, hk, hP⟩ := hrel
      by_cases hlt : k < (plsP ss 1).length
      · obtain ⟨q, hq⟩ : ∃ q, (declsP ss)[k]? = some q := ⟨_, List.getElem?_eq_getElem (by have := HNL.out; omega)⟩
        obtain ⟨i, j, x⟩ := q
        have hqI : (plsP ss 1)[k]? = some ((i : Int), (j : Int)) := by rw [declsP_map, List.getElem?_map, hq]; rfl
        obtain ⟨hpl2, hkd⟩ := decl_kind (List.mem_of_getElem? hq)
        obtain ⟨b1, f1, rfl, hb1, q1⟩ := hP.out.2.1.args.at (by omega)
        obtain ⟨c0, c1⟩ := q1 k _ hqI
        have hbP := (Below.refl wr.heap.size wr).alloc (Nat.le_refl _) (.cells #[.int .i64 (i : Int), .int .i64 (j : Int)] 43)
        have HP3 := Lib.hid (hP.out.1.step hbP)
        have HB3 := Lib.hid (And.intro (hP.out.2.1.below hbP) (hP.out.2.2.below hbP))
        have RP := Lib.hid (Row.new wr [.int .i64 (i : Int), .int .i64 (j : Int)] 43)
        have HST := Lib.hid (filtL_snoc (hidB ss s) ((declsP ss).take k) (i, j, x))
        have HTK : Hid ((declsP ss).take (k + 1) = (declsP ss).take k ++ [(i, j, x)]) := Lib.hid (by rw [List.take_add_one, hq]; rfl)
        have HSB : Hid (hidB ss s (i, j, x) = (decide (i ∈ chainP ss s) && !foundB ss s (i, j, x))) := Lib.hid (by
          unfold hidB
          dsimp only at hkd
          rw [hkd]
          rfl)
        have g3 := HP3.out.box.cell (i := 0) (by rfl)
        have hfl : (filtL (hidB ss s) ((declsP ss).take k)).length ≤ 30 := by
          have h1 := filtL_length (hidB ss s) ((declsP ss).take k)
          rw [List.length_take] at h1
          omega
        have HPL2 := Lib.hid hpl2
        have hmi : decide ((i : Int) ∈ natInts (chainP ss s)) = decide (i ∈ chainP ss s) := by
          unfold natInts
          rw [Bool.eq_iff_iff, decide_eq_true_iff, decide_eq_true_iff, List.mem_map]
          constructor
          · rintro ⟨a, ha, he⟩
            have : a = i := by omega
            exact this ▸ ha
          · exact fun h => ⟨i, h, rfl⟩
        have r0 := RP.out.cell (i := 0) (v := .int .i64 (i : Int)) (by rfl)
        have C3 := Lib.hid (l2In_any (natInts (chainP ss s)) oc cc (i : Int) _ (by omega) HB3.out.2.args)
        rw [hmi] at C3
        clear hq hqI hpl2 hkd q1 hbP hb1 hmi
        dsimp only at c0 c1
        go_wp2_with fail
        refine C3.out.mono ?_
        rintro e w4 ⟨rfl, hb4⟩
        have HP4 := Lib.hid (HP3.out.step hb4)
        have HB4 := Lib.hid (And.intro (HB3.out.1.below hb4) (HB3.out.2.below hb4))
        have RP4 := Lib.hid (RP.out.below hb4 RP.out.lt)
        have p40 := RP4.out.cell (i := 0) (v := .int .i64 (i : Int)) (by rfl)
        have p41 := RP4.out.cell (i := 1) (v := .int .i64 (j : Int)) (by rfl)
        have g4 := HP4.out.box.cell (i := 0) (by rfl)
        clear hb4 g3 c0 c1 r0
        cases hch : decide (i ∈ chainP ss s)
        · have HE : Hid (filtL (hidB ss s) ((declsP ss).take (k + 1)) = filtL (hidB ss s) ((declsP ss).take k)) := Lib.hid (by rw [HTK.out, HST.out, HSB.out, hch]; simp)
          clear hch p40 p41 g4
          go_wp2
          go_roundw
          case rel => exact ⟨k + 1, by go_num, by omega, Lib.hid ⟨by rw [HE.out]; exact HP4.out, HB4.out⟩⟩
          case measure => simp only [intOf]; omega
        have C4 := Lib.hid (l5Sees_any ss HH.out.1 HF.out oa cap s HSL.out HPL2.out _ (HC.out.below HP4.out.below (Nat.le_refl _)))
        go_wp2_with fail
        refine C4.out.mono ?_
        rintro e w6 ⟨rfl, hb6⟩
        have HP6 := Lib.hid (HP4.out.step hb6)
        have HB6 := Lib.hid (And.intro (HB4.out.1.below hb6) (HB4.out.2.below hb6))
        have RP6 := Lib.hid (RP4.out.below hb6 RP4.out.lt)
        have p0 := RP6.out.cell (i := 0) (v := .int .i64 (i : Int)) (by rfl)
        have p1 := RP6.out.cell (i := 1) (v := .int .i64 (j : Int)) (by rfl)
        clear hb6 g4 p40 p41
        cases hfd : foundB ss s (i, j, x)
        rotate_left
        · have HE : Hid (filtL (hidB ss s) ((declsP ss).take (k + 1)) = filtL (hidB ss s) ((declsP ss).take k)) := Lib.hid (by rw [HTK.out, HST.out, HSB.out, hch, hfd]; simp)
          clear hfd hch
          go_wp2
          go_roundw
          case rel => exact ⟨k + 1, by go_num, by omega, Lib.hid ⟨by rw [HE.out]; exact HP6.out, HB6.out⟩⟩
          case measure => simp only [intOf]; omega
        · have HE : Hid (filtL (hidB ss s) ((declsP ss).take (k + 1)) = filtL (hidB ss s) ((declsP ss).take k) ++ [((i : Int), (j : Int))]) := Lib.hid (by rw [HTK.out, HST.out, HSB.out, hch, hfd]; rfl)
          generalize hpe : filtL (hidB ss s) ((declsP ss).take k) = pre at hfl
          rw [hpe] at HP6 HE
          have hbs6 := HP6.out.below.size
          obtain ⟨v', w', hrun, hown', hgrow, hwh⟩ := append_placeW HP6.out.row (i : Int) (j : Int) (by omega) hbs6 34
          have HRUN := Lib.hid hrun
          have HP5 : Hid (PlsAt w w' _ cap ss.length v' (filtL (hidB ss s) ((declsP ss).take (k + 1))) ∧ Aside w' v' _ (plsP ss 1) ∧ AsideI w' v' oc (natInts (chainP ss s))) := Lib.hid ⟨{
            box := (HP6.out.box.alloc (.cells #[.int .i64 (i : Int), .int .i64 (j : Int)] 43)).grown hgrow (ownsRow_ne2 HP6.out.box (by decide) HP6.out.row)
            row := by rw [HE.out, List.length_append, placeCells_snoc]; exact hown'
            below := HP6.out.below.trans (below_append2 HP6.out.row hgrow (Nat.le_refl w.heap.size) hbs6) }, HB6.out.1.grown hgrow hwh, HB6.out.2.grown hgrow hwh⟩
          clear hpe hfd hch hown' hgrow hrun hwh
          go_wp2_with (at_builtin; refine wpList_append_run rfl _ _ 34 rfl HRUN.out ?_)
          go_wp2
          go_roundw
          case rel => exact ⟨k + 1, by go_num, by omega, HP5⟩
          case measure => simp only [intOf]; omega
      · obtain rfl : k = (plsP ss 1).length := by omega
        have HE : Hid (filtL (hidB ss s) ((declsP ss).take (plsP ss 1).length) = filtL (hidB ss s) (placed 0 ss)) := Lib.hid (by rw [HNL.out, List.take_length, HFD.out])
        go_wp2
        go_ret2
        exact .inr ⟨HH.out, _, rfl, by have := hP.out.1.row; rw [HE.out] at this; exact this, hP.out.1.below⟩
end Go.Proofs.YtoijapbffhkbbaaDoor
namespace Go.Proofs.YtoijapbffhkbbaaDoor
open Go Go.RowKit Go.Maps
attribute [local go_sem] Oper.semAt_some
/-- Two sets of one's own, new. -/
theorem twoSets (W : World) (f : Nat → Bool) (h : Nat → Bool) :
    ((W.alloc (.cells #[.bool false, .bool false, .bool false, .bool false, .bool false, .bool false] 106)).alloc (.cells #[.bool false, .bool false, .bool false, .bool false, .bool false, .bool false, .bool false, .bool false, .bool false, .bool false, .bool false, .bool false, .bool false, .bool false, .bool false, .bool false, .bool false, .bool false, .bool false, .bool false, .bool false, .bool false, .bool false, .bool false, .bool false, .bool false, .bool false, .bool false, .bool false, .bool false] 94)).heap[W.heap.size]? = some (.cells #[.bool false, .bool false, .bool false, .bool false, .bool false, .bool false] 106 (0, 0)) ∧
    ((((W.alloc (.cells #[.bool false, .bool false, .bool false, .bool false, .bool false, .bool false] 106)).alloc (.cells #[.bool false, .bool false, .bool false, .bool false, .bool false, .bool false, .bool false, .bool false, .bool false, .bool false, .bool false, .bool false, .bool false, .bool false, .bool false, .bool false, .bool false, .bool false, .bool false, .bool false, .bool false, .bool false, .bool false, .bool false, .bool false, .bool false, .bool false, .bool false, .bool false, .bool false] 94)).setRow W.heap.size (setV f).toArray)).heap[W.heap.size + 1]? = some (.cells #[.bool false, .bool false, .bool false, .bool false, .bool false, .bool false, .bool false, .bool false, .bool false, .bool false, .bool false, .bool false, .bool false, .bool false, .bool false, .bool false, .bool false, .bool false, .bool false, .bool false, .bool false, .bool false, .bool false, .bool false, .bool false, .bool false, .bool false, .bool false, .bool false, .bool false] 94 (0, 0)) ∧
    Row ((((W.alloc (.cells #[.bool false, .bool false, .bool false, .bool false, .bool false, .bool false] 106)).alloc (.cells #[.bool false, .bool false, .bool false, .bool false, .bool false, .bool false, .bool false, .bool false, .bool false, .bool false, .bool false, .bool false, .bool false, .bool false, .bool false, .bool false, .bool false, .bool false, .bool false, .bool false, .bool false, .bool false, .bool false, .bool false, .bool false, .bool false, .bool false, .bool false, .bool false, .bool false] 94)).setRow W.heap.size (setV f).toArray).setRow (W.heap.size + 1) (psetL h).toArray) W.heap.size 106 (setV f) ∧
    Row ((((W.alloc (.cells #[.bool false, .bool false, .bool false, .bool false, .bool false, .bool false] 106)).alloc (.cells #[.bool false, .bool false, .bool false, .bool false, .bool false, .bool false, .bool false, .bool false, .bool false, .bool false, .bool false, .bool false, .bool false, .bool false, .bool false, .bool false, .bool false, .bool false, .bool false, .bool false, .bool false, .bool false, .bool false, .bool false, .bool false, .bool false, .bool false, .bool false, .bool false, .bool false] 94)).setRow W.heap.size (setV f).toArray).setRow (W.heap.size + 1) (psetL h).toArray) (W.heap.size + 1) 94 (psetL h) ∧
    Below W.heap.size W ((((W.alloc (.cells #[.bool false, .bool false, .bool false, .bool false, .bool false, .bool false] 106)).alloc (.cells #[.bool false, .bool false, .bool false, .bool false, .bool false, .bool false, .bool false, .bool false, .bool false, .bool false, .bool false, .bool false, .bool false, .bool false, .bool false, .bool false, .bool false, .bool false, .bool false, .bool false, .bool false, .bool false, .bool false, .bool false, .bool false, .bool false, .bool false, .bool false, .bool false, .bool false] 94)).setRow W.heap.size (setV f).toArray).setRow (W.heap.size + 1) (psetL h).toArray) := by
  have h1 : ((W.alloc (.cells #[.bool false, .bool false, .bool false, .bool false, .bool false, .bool false] 106)).alloc (.cells #[.bool false, .bool false, .bool false, .bool false, .bool false, .bool false, .bool false, .bool false, .bool false, .bool false, .bool false, .bool false, .bool false, .bool false, .bool false, .bool false, .bool false, .bool false, .bool false, .bool false, .bool false, .bool false, .bool false, .bool false, .bool false, .bool false, .bool false, .bool false, .bool false, .bool false] 94)).heap[W.heap.size]? = some (.cells #[.bool false, .bool false, .bool false, .bool false, .bool false, .bool false] 106 (0, 0)) := (Row.new W [.bool false, .bool false, .bool false, .bool false, .bool false, .bool false] 106).alloc (.cells #[.bool false, .bool false, .bool false, .bool false, .bool false, .bool false, .bool false, .bool false, .bool false, .bool false, .bool false, .bool false, .bool false, .bool false, .bool false, .bool false, .bool false, .bool false, .bool false, .bool false, .bool false, .bool false, .bool false, .bool false, .bool false, .bool false, .bool false, .bool false, .bool false, .bool false] 94)
  have h2 : ((W.alloc (.cells #[.bool false, .bool false, .bool false, .bool false, .bool false, .bool false] 106)).alloc (.cells #[.bool false, .bool false, .bool false, .bool false, .bool false, .bool false, .bool false, .bool false, .bool false, .bool false, .bool false, .bool false, .bool false, .bool false, .bool false, .bool false, .bool false, .bool false, .bool false, .bool false, .bool false, .bool false, .bool false, .bool false, .bool false, .bool false, .bool false, .bool false, .bool false, .bool false] 94)).heap[W.heap.size + 1]? = some (.cells #[.bool false, .bool false, .bool false, .bool false, .bool false, .bool false, .bool false, .bool false, .bool false, .bool false, .bool false, .bool false, .bool false, .bool false, .bool false, .bool false, .bool false, .bool false, .bool false, .bool false, .bool false, .bool false, .bool false, .bool false, .bool false, .bool false, .bool false, .bool false, .bool false, .bool false] 94 (0, 0)) := by
    have := Row.new (W.alloc (.cells #[.bool false, .bool false, .bool false, .bool false, .bool false, .bool false] 106)) [.bool false, .bool false, .bool false, .bool false, .bool false, .bool false, .bool false, .bool false, .bool false, .bool false, .bool false, .bool false, .bool false, .bool false, .bool false, .bool false, .bool false, .bool false, .bool false, .bool false, .bool false, .bool false, .bool false, .bool false, .bool false, .bool false, .bool false, .bool false, .bool false, .bool false] 94
    rw [World.size_alloc] at this
    exact this
  have h3 : ((((W.alloc (.cells #[.bool false, .bool false, .bool false, .bool false, .bool false, .bool false] 106)).alloc (.cells #[.bool false, .bool false, .bool false, .bool false, .bool false, .bool false, .bool false, .bool false, .bool false, .bool false, .bool false, .bool false, .bool false, .bool false, .bool false, .bool false, .bool false, .bool false, .bool false, .bool false, .bool false, .bool false, .bool false, .bool false, .bool false, .bool false, .bool false, .bool false, .bool false, .bool false] 94)).setRow W.heap.size (setV f).toArray)).heap[W.heap.size + 1]? = some (.cells #[.bool false, .bool false, .bool false, .bool false, .bool false, .bool false, .bool false, .bool false, .bool false, .bool false, .bool false, .bool false, .bool false, .bool false, .bool false, .bool false, .bool false, .bool false, .bool false, .bool false, .bool false, .bool false, .bool false, .bool false, .bool false, .bool false, .bool false, .bool false, .bool false, .bool false] 94 (0, 0)) := (setRow_other _ _ _ _ (by omega)).trans h2
  refine ⟨h1, h3, ?_, setRow_heap _ _ _ _ _ _ h3, ?_⟩
  · exact (setRow_other _ _ _ _ (by omega)).trans (setRow_heap _ _ _ _ _ _ h1)
  · exact ((((Below.refl _ _).alloc (Nat.le_refl _) _).alloc (by simp) _).trans (below_setRow _ _ _ (Nat.le_refl _))).trans (below_setRow _ _ _ (by omega))
theorem setV_one (f : Nat → Bool) : (setV f).toArray.all (·.oneCell') = true := by
  have h : ∀ v ∈ setV f, v.oneCell' = true := by
    intro v hv
    simp only [setV, List.mem_cons, List.not_mem_nil, or_false] at hv
    rcases hv with rfl | rfl | rfl | rfl | rfl | rfl <;> rfl
  rw [Array.all_eq_true]
  intro i hi
  have h1 := h _ (List.getElem_mem (l := setV f) (n := i) (by simpa using hi))
  simpa using h1
theorem setV_info (f : Nat → Bool) : (Tryd.prog.info? 106).map (·.size) = some (setV f).toArray.size := by
  show _ = some 6
  kernel_rfl
set_option maxRecDepth 100000 in
set_option maxHeartbeats 8000000 in
theorem implHiddenFrom_any (ss : List Sc) (hF : Fair ss) (oa : Option Addr) (cap : Nat) (n : Int) (w : World) (hc : HoldsScopes w oa ss) (hE : NodeErrs w) :
    Calls Tryd.prog 27 #[.agg #[.slice oa ss.length cap], .int .i64 n] w (PlGot (HasScope ss n) (filtL (hidB ss n.toNat) (placed 0 ss)) w) := by
  have hb0 := (Below.refl w.heap.size w).alloc (Nat.le_refl _) (.cells #[.slice oa ss.length cap] 30)
  have C := Lib.hid (nodeOf_any ss hF oa cap n _ (hc.below hb0 (Nat.le_refl _)) (hE.at hb0))
  have HB0 := Lib.hid hb0
  clear hF hc hE hb0
  refine (callsIn_wide (n := 6)).1 ?_
  refine callsIn_of_wp_marks Tryd.func27 rfl trivial ?_ rfl
  simp only [Tryd.ntmps27, List.size_toArray, List.length_cons, List.length_nil, Nat.reduceAdd, Nat.reduceSub, Array.replicate_succ, Array.replicate_zero, List.push_toArray, List.append_toArray, List.nil_append, List.cons_append]
  refine wpIn_wide.2 ?_
  go_wp2_with fail
  refine C.out.mono ?_
  rintro e w1 (⟨hv, ⟨tp, p, rfl⟩, hb⟩ | ⟨hv, s, d, T, M1, M2, v, ds, rfl, hs, hd, rfl, hb, hT⟩)
  · have HV := Lib.hid hv
    have HB := Lib.hid (HB0.out.trans (hb.mono HB0.out.size))
    clear hv hb
    go_wp2
    exact ⟨_, results_tmp2 rfl _ _ _, .inl ⟨HV.out, rfl, HB.out⟩⟩
  · have HV : Hid (HasScope ss (s : Int)) := Lib.hid ⟨hv, by omega, by omega⟩
    have HB := Lib.hid (HB0.out.trans (hb.mono HB0.out.size))
    obtain ⟨B, HT⟩ : ∃ B, Hid (TreeIs w1 B T M1 M2 v ds ss) := ⟨_, Lib.hid hT⟩
    have HD := Lib.hid hd
    clear hv hb hT hd hs
    go_wp2_with fail
    refine (chainSet_any HV.out.1 HT.out HD.out).mono ?_
    rintro e w10 ⟨rfl, hb10⟩
    have HT10 := Lib.hid (HT.out.below hb10)
    have HB10 := Lib.hid (HB.out.trans (hb10.mono HB.out.size))
    clear hb10
    go_wp2_with fail
    refine (lookupIn_any T _).mono ?_
    rintro e w2 ⟨rfl, hR, hM, hb2⟩
    have HB2 := Lib.hid (HB10.out.trans (hb2.mono HB10.out.size))
    have HLW := Lib.hid (LookW.mk (HT10.out.below hb2) hR (memo_nil hM) (by obtain ⟨_, h⟩ := HT10.out.items; have := h.lt; omega) (by obtain ⟨_, h⟩ := HT10.out.mods; have := h.lt; omega))
    clear hR hM hb2
    go_wp2_with fail
    refine (seen_any HV.out.1 HLW.out HD.out).mono ?_
    rintro e w3 ⟨rfl, hl3⟩
    have HB3 := Lib.hid (HB2.out.trans (hl3.turns.below HB10.out.size HB10.out.size HB2.out.size))
    obtain ⟨hz6, hz30, hr6, hr30, hbS⟩ := twoSets w3 (fun i => decide (i ∈ chainP ss s)) (seenUp ss s 26)
    have HT4 := Lib.hid (hl3.look.tree.below hbS)
    have HB4 := Lib.hid (HB3.out.trans (hbS.mono HB3.out.size))
    have HS6 := Lib.hid hr6
    have HS4 := Lib.hid hr30
    clear hl3 hbS hr6 hr30
    go_upto_region 5 with (first
      | (refine wpList_store_row rfl 106 _ _ rfl w3.heap.size (setV fun i => decide (i ∈ chainP ss s)).toArray rfl rfl 106 _ hz6 (setV_info _) rfl (setV_one _) ?_)
      | (refine wpList_store_row rfl 94 _ _ rfl (w3.heap.size + 1) (psetL (seenUp ss s 26)).toArray rfl rfl 94 _ hz30 (psetL_info _) (by simp [psetL_length]) (psetL_one _) ?_))
    clear hz6 hz30
    obtain ⟨g, hg⟩ : ∃ g, w3.heap.size + 1 = g := ⟨_, rfl⟩
    obtain ⟨g6, hg6⟩ : ∃ g, w3.heap.size = g := ⟨_, rfl⟩
    generalize ((((w3.alloc (.cells #[.bool false, .bool false, .bool false, .bool false, .bool false, .bool false] 106)).alloc (.cells #[.bool false, .bool false, .bool false, .bool false, .bool false, .bool false, .bool false, .bool false, .bool false, .bool false, .bool false, .bool false, .bool false, .bool false, .bool false, .bool false, .bool false, .bool false, .bool false, .bool false, .bool false, .bool false, .bool false, .bool false, .bool false, .bool false, .bool false, .bool false, .bool false, .bool false] 94)).setRow w3.heap.size (setV fun i => decide (i ∈ chainP ss s)).toArray).setRow (w3.heap.size + 1) (psetL (seenUp ss s 26)).toArray) = w4 at *
    rw [hg] at *
    rw [hg6] at *
    go_upto_region 6 with (fail)
    go_wp2_with fail
    refine (all_any _ _).mono ?_
    rintro e w5 ⟨rfl, rfl⟩
    go_wp2
    refine (wpIn_wide (n := 6)).1 ?_
    gi_wp2
    have hBx : Below w4.heap.size w4 ((w4.alloc (.cells #[.slice none 0 0] 34)).alloc (.cells #[.pointer (some ⟨T, 0, none⟩)] 86)) := ((Below.refl _ _).alloc (Nat.le_refl _) _).alloc (by simp) _
    have bL := (Boxed.new w4 34 (.slice none 0 0)).alloc (.cells #[.pointer (some ⟨T, 0, none⟩)] 86)
    have bN := Boxed.new (w4.alloc (.cells #[.slice none 0 0] 34)) 86 (.pointer (some ⟨T, 0, none⟩))
    rw [World.size_alloc] at bN
    have hsm := HV.out.1.small
    refine wpIn_rangeFunc_ownH rfl (by omega) (gf := 132) (lb := #[.pointer (some ⟨w4.heap.size + 1, 0, none⟩)]) rfl trivial (enters_of Tryd.func132 (by kernel_rfl) rfl)
      (all_stops 5 (by omega) (w4.heap.size + 1) _ T M1 M2 v ds ss w4 _ HT4.out.tree HT4.out.hold (HT4.out.ne HV.out.1) hsm.len hsm.items (.of_below hBx) bN.cell) CellsKept.trans (fun W l o o' _ h1 h2 h3 => cellsKept_b (w := w4) W l o o' (by simp at *; omega) h1 h2 h3) (Below.refl _ _) (fun _ => rfl)
      (fun pre W => (∃ u, Boxed W w4.heap.size 34 u ∧ W.ownsRow w4.heap.size 43 2 u (elF (hidB ss s) pre).length (placeCells (elF (hidB ss s) pre)) ∧ True) ∧ (CellsKept w4.heap.size w4 W ∧ Below w4.heap.size w4 W))
      (fun _ _ _ => False)
      (OwnFrom.and (Own.from (holdsRow_own w4.heap.size w4.heap.size 34 43 2 (fun pre : List (El ss) => (elF (hidB ss s) pre).length) (fun pre => placeCells (elF (hidB ss s) pre)) (fun _ _ => True)) _) (OwnFrom.and (cellsKept_own w4) (ownFrom_below (Nat.le_refl _) (by simp; omega))))
      (fun _ _ _ _ _ hs _ _ => hs)
      ⟨⟨_, bL, World.ownsRow_nil _ _ _ _, trivial⟩, .of_below hBx, hBx⟩
      (fun x a' W => ∃ Bp Bx, Row W Bp 43 [.int .i64 (x.1.1 : Int), .int .i64 (x.1.2.1 : Int)] ∧ Row W Bx 57 [.int .i64 x.1.2.2.kind, .string x.1.2.2.name, .int .i64 x.1.2.2.scope] ∧ w4.heap.size < Bp ∧ w4.heap.size < Bx ∧
        a' = { tmps := #[.agg #[.slice oa ss.length cap], .int .i64 (s : Int), .pointer (some ⟨w.heap.size, 0, none⟩), undef, .slice none 0 0, .bool false, .pointer (some ⟨T, 0, none⟩), .pointer (some ⟨d.blk, 0, none⟩), .nilIface, .pointer (some ⟨g6, 0, none⟩), .pointer (some ⟨g, 0, none⟩), .pointer (some ⟨w4.heap.size, 0, none⟩), .pointer (some ⟨Bp, 0, none⟩), .pointer (some ⟨Bx, 0, none⟩), .tuple #[.pointer (some ⟨T, 0, none⟩), .pointer (some ⟨d.blk, 0, none⟩), .nilIface], .agg #[.slice oa ss.length cap], .int .i64 (s : Int), .tuple #[.pointer (some ⟨T, 0, none⟩), .pointer (some ⟨d.blk, 0, none⟩), .nilIface], .pointer (some ⟨T, 0, none⟩), .pointer (some ⟨d.blk, 0, none⟩), .nilIface, .nilIface, .bool false, .pointer (some ⟨d.blk, 0, none⟩), .agg (setV fun i => decide (i ∈ chainP ss s)).toArray, .pointer (some ⟨T, 0, none⟩), .pointer (some ⟨w10.heap.size + 1, 0, none⟩), .pointer (some ⟨d.blk, 0, none⟩), .agg (psetL (seenUp ss s 26)).toArray, .pointer (some ⟨T, 0, none⟩), .func (.func 132) #[] #[.pointer (some ⟨w4.heap.size + 1, 0, none⟩)], .agg #[.int .i64 (x.1.1 : Int), .int .i64 (x.1.2.1 : Int)], .agg #[.int .i64 x.1.2.2.kind, .string x.1.2.2.name, .int .i64 x.1.2.2.scope], undef, undef, undef, undef, undef, undef, undef, undef, undef, undef, undef, undef, undef, undef, undef, undef, undef, undef, undef], defers := [] })
      (fun x a' _ X Y row hs hg hr => by obtain ⟨Bp, Bx, h1, h2, h3, h4, h5⟩ := hs; exact ⟨Bp, Bx, h1.kept_cells hg (fun r e => (hr r e).2), h2.kept_cells hg (fun r e => (hr r e).2), h3, h4, h5⟩)
      ?assign ?body ?done ?stop
    case assign =>
      rintro l pre x W K hi hK
      dsimp only [elArgs]
      gi_wp2
      have ha : Below W.heap.size W ((W.alloc (.cells #[.int .i64 (x.1.1 : Int), .int .i64 (x.1.2.1 : Int)] 43)).alloc (.cells #[.int .i64 x.1.2.2.kind, .string x.1.2.2.name, .int .i64 x.1.2.2.scope] 57)) := ((Below.refl _ _).alloc (Nat.le_refl _) _).alloc (by simp) _
      obtain ⟨⟨u, hB, hrow, -⟩, hck, hbw⟩ := hi
      have hlt := hB.lt
      refine hK _ _ (((KeepsOthers.alloc _ _).trans (KeepsOthers.alloc _ _)).from _) ((CellsKept.of_below ha).mono hbw.size) ⟨⟨u, (hB.alloc _).alloc _, (hrow.alloc _).alloc _, trivial⟩, hck.trans ((CellsKept.of_below ha).mono hbw.size), hbw.trans (ha.mono hbw.size)⟩ ⟨W.heap.size, W.heap.size + 1, ?_, ?_, hlt, by omega, rfl⟩
      · exact (Row.new W [.int .i64 (x.1.1 : Int), .int .i64 (x.1.2.1 : Int)] 43).alloc _
      · have := Row.new (W.alloc (.cells #[.int .i64 (x.1.1 : Int), .int .i64 (x.1.2.1 : Int)] 43)) [.int .i64 x.1.2.2.kind, .string x.1.2.2.name, .int .i64 x.1.2.2.scope] 57
        rw [World.size_alloc] at this
        exact this
    case body =>
      rintro l pre x a' W hl _ ⟨⟨u, hB, hrow, -⟩, hck, hbw⟩ ⟨Bp, Bx, hp, hx, hlp, hlx, rfl⟩ hlen
      obtain ⟨⟨i, j, it⟩, hmem⟩ := x
      have HQ : Hid (elF (hidB ss s) (pre ++ [(⟨(i, j, it), hmem⟩ : El ss)]) = elF (hidB ss s) pre ++ if hidB ss s (i, j, it) = true then [((i : Int), (j : Int))] else []) := Lib.hid (by unfold elF; rw [List.map_append]; exact filtL_snoc _ _ _)
      dsimp only at hp hx ⊢
      have hlen' : (elF (hidB ss s) pre).length < 1000000 := by
        have h1 := filtL_length (hidB ss s) (pre.map Subtype.val)
        have h2 := placed_bound 0 ss 6 5 HV.out.1.count.2 HV.out.1.five
        rw [List.length_map] at h1
        unfold elF
        omega
      have p0 := hp.cell (i := 0) (by rfl)
      have p1 := hp.cell (i := 1) (by rfl)
      have x0 := hx.cell (i := 0) (by rfl)
      have hsm2 := placed_small HV.out.1 hmem
      have hr6 : Row W g6 106 (setV fun i => decide (i ∈ chainP ss s)) := hck.block g6 _ _ _ HS6.out.lt HS6.out
      have k0 := hr6.cell (setV_get _ i hsm2.1)
      have hi6 : (i : Int) < 6 := by have := hsm2.1; omega
      have HI := Lib.hid (And.intro hck hbw)
      have HBR := Lib.hid (And.intro hB hrow)
      have HPR := Lib.hid hp
      by_cases hk1 : it.kind = 1
      · have hq1 : (it.kind == 1) = true := by simpa using hk1
        cases hch : decide (i ∈ chainP ss s)
        · have HE : Hid (elF (hidB ss s) (pre ++ [(⟨(i, j, it), hmem⟩ : El ss)]) = elF (hidB ss s) pre) := Lib.hid (by rw [HQ.out]; unfold hidB; dsimp only; rw [hch]; simp)
          rw [hch] at k0
          clear hB hrow hck hbw hp hx hsm2 hr6 hk1 hch
          gi_wp2_with fail
          refine ⟨trivial, ?_⟩
          gi_wp2
          refine ⟨KeepsFrom.refl _ _, CellsKept.refl _ _, ⟨u, HBR.out.1, ?_, trivial⟩, HI.out.1, HI.out.2⟩
          rw [HE.out]
          exact HBR.out.2
        · rw [hch] at k0
          have HSA : Hid (seenUp ss s 26 (i * 5 + j) = foundB ss s (i, j, it)) := Lib.hid (by
            rw [seen_at HV.out.1 s hmem]
            unfold seesB
            dsimp only
            rw [hq1, Bool.true_and])
          have HHB : Hid (hidB ss s (i, j, it) = !foundB ss s (i, j, it)) := Lib.hid (by
            unfold hidB
            dsimp only
            rw [hq1, hch, Bool.true_and, Bool.true_and])
          have C2 := Lib.hid (CallsIn.inRound l ((callsIn_wide (n := 3)).2 (phas_any (f := seenUp ss s 26) (show Row W g 94 (psetL (seenUp ss s 26)) from hck.block g _ _ _ HS4.out.lt HS4.out) hsm2.1 hsm2.2)))
          clear hB hrow hck hbw hp hx hsm2 hr6 hk1 hch
          gi_wp2_with fail
          refine ⟨trivial, ?_⟩
          gi_at_call 79
          refine C2.out.mono ?_
          rintro e w6 ⟨rfl, hb6⟩
          have hB6 : Boxed w6 w4.heap.size 34 u := (hb6.block _ HBR.out.1.lt).trans HBR.out.1
          have hrow6 := ownsRow_below HBR.out.2 hb6
          have hp6 := HPR.out.below hb6 HPR.out.lt
          have p60 := hp6.cell (i := 0) (by rfl)
          have p61 := hp6.cell (i := 1) (by rfl)
          have HKF := Lib.hid (keepsOthers_of_below hb6)
          have HBW6 := Lib.hid (HI.out.2.trans (hb6.mono HI.out.2.size))
          have HCK6 := Lib.hid (HI.out.1.trans ((CellsKept.of_below hb6).mono HI.out.2.size))
          have HCB6 := Lib.hid ((CellsKept.of_below hb6).mono HI.out.2.size)
          clear hb6 p0 p1 x0 k0
          rw [HSA.out]
          cases hsb : foundB ss s (i, j, it)
          rotate_left
          · have HE : Hid (elF (hidB ss s) (pre ++ [(⟨(i, j, it), hmem⟩ : El ss)]) = elF (hidB ss s) pre) := Lib.hid (by rw [HQ.out, HHB.out, hsb]; simp)
            have HP := Lib.hid (And.intro hB6 hrow6)
            clear hB6 hrow6 hsb hp6 p60 p61
            gi_wp2
            refine ⟨HKF.out.from _, HCB6.out, ⟨u, HP.out.1, ?_, trivial⟩, HCK6.out, HBW6.out⟩
            rw [HE.out]
            exact HP.out.2
          · have HE : Hid (elF (hidB ss s) (pre ++ [(⟨(i, j, it), hmem⟩ : El ss)]) = elF (hidB ss s) pre ++ [((i : Int), (j : Int))]) := Lib.hid (by rw [HQ.out, HHB.out, hsb]; simp)
            obtain ⟨v', w7, hrun, hown', hgrow⟩ := append_place0 hrow6 (i : Int) (j : Int) hlen' HBW6.out.size 34
            have hown2 := hown'
            obtain ⟨g', cap', rfl⟩ := ownsRow_succ hown'
            simp [go_sem] at hrun
            obtain ⟨hv1, hv2, hr2, hk2, hb2⟩ := hB6.appended (by decide) hrow6 HBW6.out.size (Nat.le_refl _) hown2 hgrow
            have c0 := hB6.cell
            have c0' := (hB6.alloc (.cells #[.int .i64 (i : Int), .int .i64 (j : Int)] 43)).cell
            have c1 := hv1.cell
            have f1 := hv1.frozen
            have HP := Lib.hid (And.intro hv2 (And.intro hr2 (And.intro hk2 hb2)))
            clear hB6 hrow6 hown' hown2 hgrow hv1 hv2 hr2 hk2 hb2 hsb hp6
            gi_wp2
            refine ⟨(HKF.out.trans HP.out.2.2.1).from _, HCB6.out.trans (.of_below HP.out.2.2.2), ⟨_, HP.out.1, ?_, trivial⟩, HCK6.out.trans (.of_below HP.out.2.2.2), HBW6.out.trans HP.out.2.2.2⟩
            rw [HE.out, List.length_append, placeCells_snoc]
            exact HP.out.2.1
      · have hq1 : (it.kind == 1) = false := by simpa using hk1
        have HE : Hid (elF (hidB ss s) (pre ++ [(⟨(i, j, it), hmem⟩ : El ss)]) = elF (hidB ss s) pre) := Lib.hid (by rw [HQ.out]; unfold hidB; dsimp only; rw [hq1]; simp)
        clear hB hrow hck hbw hp hx hsm2 hr6 hk1 k0
        gi_wp2_with fail
        refine ⟨trivial, ?_⟩
        gi_wp2
        refine ⟨KeepsFrom.refl _ _, CellsKept.refl _ _, ⟨u, HBR.out.1, ?_, trivial⟩, HI.out.1, HI.out.2⟩
        rw [HE.out]
        exact HBR.out.2
    case done =>
      rintro D xs W hD hS ⟨⟨u, hB, hrow, -⟩, hck, hbw⟩ hK
      have cB := hB.cell
      have HS2 : Hid (elF (hidB ss s) xs = filtL (hidB ss s) (placed 0 ss)) := Lib.hid (by unfold elF; rw [hS])
      clear hS
      go_wp2
      refine ⟨by simp, .inl ⟨_, _, rfl, run_takeDeferred hK, ?_⟩⟩
      have hrow2 := ownsRow_lower (ownsRow_putObj hrow (.deferred none) hK rfl) (show w.heap.size ≤ w4.heap.size from HB4.out.size)
      rw [HS2.out] at hrow2
      have hend : Below w.heap.size w (W.putObj D (.deferred none)) := HB4.out.trans ((hbw.mono HB4.out.size).trans (belowK_b (w := w) (Nat.le_refl _) W D _ _ (by have := HB4.out.size; simp at hD; omega) hK rfl rfl))
      exact ⟨_, results_tmp2 rfl _ _ _, .inr ⟨HV.out, u, rfl, by rw [Int.toNat_natCast]; exact hrow2, hend⟩⟩
    case stop =>
      rintro D c pre W _ _ h _
      exact h.elim
end Go.Proofs.YtoijapbffhkbbaaDoor
