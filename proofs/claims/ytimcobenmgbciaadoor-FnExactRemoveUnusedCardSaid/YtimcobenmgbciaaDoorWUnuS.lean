/-
  The walks of the given l6RawRemoveUnused and RemoveUnused. Condition: the argument's memory holds the graph.
-/
import Derived.Test.YtimcobenmgbciaaDoorWUnuI
namespace Go.Proofs.YtimcobenmgbciaaDoor
open Go Go.RowKit
attribute [local go_sem ↓] field_kind field_name field_scope field_places
/-- A graph that may share memory, and a truth. -/
def RawGrU (ok : Prop) (l : List Sc) (w : World) (e : Ending) (w' : World) : Prop :=
  (¬ ok ∧ e = .returned (.tuple #[.agg #[.slice none 0 0], .bool false]) ∧ Below w.heap.size w w') ∨
  (ok ∧ ∃ ov cv, e = .returned (.tuple #[.agg #[.slice ov l.length cv], .bool true]) ∧ HoldsScopes w' ov l ∧ Below w.heap.size w w')
/-- What is left, in the argument's box. -/
structure LeftS (w0 w : World) (us : List Sc) (ov : Option Addr) (cv : Nat) : Prop where
  box : Row w w0.heap.size 25 [.slice ov us.length cv]
  res : Row w (w0.heap.size + 1) 25 [.slice none 0 0]
  holds : HoldsScopes w ov us
  valid : Valid us
  fair : Fair us
  below : Below w0.heap.size w0 w
theorem LeftS.step {w0 w w' : World} {us : List Sc} {ov : Option Addr} {cv : Nat} (h : LeftS w0 w us ov cv) (hb : Below w.heap.size w w') : LeftS w0 w' us ov cv :=
  ⟨h.box.below hb h.box.lt, h.res.below hb h.res.lt, h.holds.below hb (Nat.le_refl _), h.valid, h.fair, h.below.trans (hb.mono h.below.size)⟩
theorem unB_decS {ss : List Sc} {i j : Nat} {x : It} (h : x.kind ≠ 2) : unB ss (i, j, x) = decide (chgP ss i j = []) := by unfold unB; simp [h]
theorem take_none {ss : List Sc} {k : Nat} {q : Nat × Nat × It} (hq : (placed 0 ss)[k]? = some q) (hno : ∀ r ∈ (placed 0 ss).take k, unB ss r = false) (hn : unB ss q = false) : ∀ r ∈ (placed 0 ss).take (k + 1), unB ss r = false := by
  intro r hr
  rw [List.take_add_one, hq] at hr
  rcases List.mem_append.1 hr with h | h
  · exact hno r h
  · simp only [Option.toList_some, List.mem_singleton] at h
    rw [h]; exact hn
theorem unP_take {n k : Nat} {us U : List Sc} {i j : Nat} {s : Sc} {x : It} (hs : us[i]? = some s) (hx : s.items[j]? = some x) (hk : (placed 0 us)[k]? = some (i, j, x)) (hno : ∀ q ∈ (placed 0 us).take k, unB us q = false) (hy : unB us (i, j, x) = true) (hl : (placed 0 us).length ≤ n) (hu : unP n us = U) :
    ∃ n', n = n' + 1 ∧ (placed 0 (rmvP us i j)).length ≤ n' ∧ unP n' (rmvP us i j) = U := by
  have hkl := (List.getElem?_eq_some_iff.1 hk).1
  have h2 : placed 0 us = (placed 0 us).take k ++ (i, j, x) :: (placed 0 us).drop (k + 1) := by
    have h1 := List.drop_eq_getElem_cons hkl
    rw [(List.getElem?_eq_some_iff.1 hk).2] at h1
    rw [← h1, List.take_append_drop]
  have h1 := placed_rmv_len hs hx
  cases n with
  | zero => omega
  | succ n =>
    refine ⟨n, rfl, by omega, ?_⟩
    rw [← hu, unP_step h2 hno hy]
set_option maxRecDepth 100000 in
set_option maxHeartbeats 16000000 in
theorem rawUnused_any (ss : List Sc) (hF : Fair ss) (oa : Option Addr) (cap : Nat) (w : World) (hc : HoldsScopes w oa ss) :
    Calls Tryd.prog 80 #[.agg #[.slice oa ss.length cap]] w (RawGrU (Valid ss) (unusedP ss) w) := by
  have hb0 := ((Below.refl w.heap.size w).alloc (Nat.le_refl _) (.cells #[.slice oa ss.length cap] 25)).alloc (by simp) (.cells #[.slice none 0 0] 25)
  have R1 := Lib.hid ((Row.new w [.slice oa ss.length cap] 25).alloc (.cells #[.slice none 0 0] 25))
  have R2 := Row.new (w.alloc (.cells #[.slice oa ss.length cap] 25)) [.slice none 0 0] 25
  rw [World.size_alloc] at R2
  have R2 := Lib.hid R2
  have C := Lib.hid (specValid_any ss oa cap _ hF.fits (hc.below hb0 (Nat.le_refl _)))
  have HB := Lib.hid hb0
  have HF := Lib.hid hF
  have HC := Lib.hid hc
  have g1 := R1.out.cell (i := 0) (v := .slice oa ss.length cap) (by rfl)
  have n0 := R2.out.cell (i := 0) (v := .slice none 0 0) (by rfl)
  have f0 := R2.out.frozen 0
  clear hF hc hb0
  go_enter Tryd.func80, Tryd.ntmps80
  go_wp2_with fail
  refine C.out.mono ?_
  rintro e w1 ⟨b, rfl, hv, hb1⟩
  have HV := Lib.hid hv
  have HB1 := Lib.hid (HB.out.trans (hb1.mono HB.out.size))
  have R1a := Lib.hid (R1.out.below hb1 R1.out.lt)
  have R2a := Lib.hid (R2.out.below hb1 R2.out.lt)
  have n0 := R2a.out.cell (i := 0) (v := .slice none 0 0) (by rfl)
  have f0 := R2a.out.frozen 0
  clear hv hb1
  cases b
  · have HN : Hid (¬ Valid ss) := Lib.hid (fun h => by have := HV.out.2 h; cases this)
    go_wp2
    have RT := R2a.out.set 0 (.slice none 0 0)
    have d0 := RT.cell (i := 0) (v := .slice none 0 0) (by rfl)
    refine bodyPost_ret (v := .tuple #[.agg #[.slice none 0 0], .bool false]) (by simp [results, Tryd.results80, go_sem, d0]) rfl (.inl ⟨HN.out, rfl, HB1.out.setCell (by simp) _⟩)
  · have HVV := Lib.hid (HV.out.1 rfl)
    have HL0 : Hid (LeftS w w1 ss oa cap) := Lib.hid ⟨R1a.out, R2a.out, HC.out.below HB1.out (Nat.le_refl _), HVV.out, HF.out, HB1.out⟩
    clear C HB R1 R2 R1a R2a HV g1 n0 f0
    go_wp2
    go_loopg [4] ((placed 0 ss).length + 1) (fun g a wr => ∃ (ag : Bool) (us : List Sc) (ov : Option Addr) (cv : Nat), a = .bool ag ∧ Hid (LeftS w wr us ov cv ∧ ((ag = true ∧ ∃ n, g = n + 1 ∧ (placed 0 us).length ≤ n ∧ unP n us = unusedP ss) ∨ (ag = false ∧ us = unusedP ss))))
    case atStart => exact ⟨true, ss, _, _, rfl, Lib.hid ⟨HL0.out, .inl ⟨rfl, _, rfl, Nat.le_refl _, rfl⟩⟩⟩
    case round =>
      obtain ⟨ag, us, ov, cv, rfl, HL⟩ := hrel
      obtain ⟨gO, rfl⟩ : ∃ gO, gO = gk := ⟨gk, rfl⟩
      obtain ⟨w3, rfl⟩ : ∃ w3, w3 = wr := ⟨wr, rfl⟩
      have g1 := HL.out.1.box.cell (i := 0) (v := .slice ov us.length cv) (by rfl)
      cases ag
      · have hE : Hid (us = unusedP ss) := Lib.hid (by
          rcases HL.out.2 with ⟨h, _⟩ | ⟨_, h⟩
          · cases h
          · exact h)
        have CC := Lib.hid (specCopy_any us ov cv HL.out.1.fair.count (fun s hs => by have := HL.out.1.fair.items s hs; omega) w3 HL.out.1.holds)
        go_wp2_with fail
        refine CC.out.mono ?_
        rintro e w5 ⟨v5, hs5, rfl, hO, hb5⟩
        obtain ⟨o5, c5, rfl⟩ := ownsRow_slice hO.row
        have HRR := Lib.hid (HL.out.1.res.below hb5 HL.out.1.res.lt)
        have n0 := HRR.out.cell (i := 0) (v := .slice none 0 0) (by rfl)
        have f0 := HRR.out.frozen 0
        have HO := Lib.hid (hO.other HRR.out (.inl (by decide)) (by decide) 0 (.slice o5 us.length c5))
        have HB5 : Hid (Below w.heap.size w (w5.setCell ⟨w.heap.size + 1, 0, none⟩ (.slice o5 us.length c5))) := Lib.hid ((HL.out.1.below.trans (hb5.mono HL.out.1.below.size)).setCell (by simp) _)
        clear hO hb5
        go_wp2
        have RT := HRR.out.set 0 (.slice o5 us.length c5)
        have d0 := RT.cell (i := 0) (v := .slice o5 us.length c5) (by rfl)
        refine bodyPost_ret (v := .tuple #[.agg #[.slice o5 us.length c5], .bool true]) (by simp [results, Tryd.results80, go_sem, d0]) rfl (.inr ⟨HVV.out, o5, c5, by rw [← hE.out], ?_, HB5.out⟩)
        rw [← hE.out]
        exact HO.out.holdsAtU
      · obtain ⟨n, hgn, hsm, hun⟩ : ∃ n, gO = n + 1 ∧ (placed 0 us).length ≤ n ∧ unP n us = unusedP ss := by
          rcases HL.out.2 with ⟨_, h⟩ | ⟨h, _⟩
          · exact h
          · cases h
        have HUN := Lib.hid (And.intro hsm hun)
        have HPL : Hid ((placed 0 us).length ≤ 30) := Lib.hid (by have := placed_bound 0 us 6 5 HL.out.1.valid.count.2 HL.out.1.valid.five; omega)
        have hpl2 : (plsAll (placed 0 us)).length ≤ 30 := by rw [plsAll_length]; exact HPL.out
        have CC := Lib.hid (l4Items_any us HL.out.1.fair.count HL.out.1.fair.items (Nat.le_trans HPL.out (by decide)) ov cv w3 HL.out.1.holds)
        clear hsm hun
        go_wp2_with fail
        refine CC.out.mono ?_
        rintro e w4 ⟨vL, rfl, hown, hb4⟩
        obtain ⟨oL, cL, rfl, hAP⟩ := argPlaces_of_owns hown
        have HAP := Lib.hid hAP
        have HLS := Lib.hid (HL.out.1.step hb4)
        have HLN : Hid ((plsAll (placed 0 us)).length = (placed 0 us).length) := Lib.hid (plsAll_length _)
        clear hown hb4 hAP g1
        go_wp2
        go_loopg [4, 15] (plsAll (placed 0 us)).length (fun g2 a i wy => a = .bool false ∧ ∃ k : Nat, i = .int .i64 k ∧ k + g2 = (plsAll (placed 0 us)).length ∧ Hid (∀ q ∈ (placed 0 us).take k, unB us q = false) ∧ Hid (Below w4.heap.size w4 wy))
        case atStart => exact ⟨rfl, 0, rfl, by omega, Lib.hid (fun q hq => by simp at hq), Lib.hid (Below.refl _ _)⟩
        case round =>
          obtain ⟨rfl, k, rfl, hk, HN, HW⟩ := hrel
          cases gk with
          | zero =>
            obtain rfl : k = (plsAll (placed 0 us)).length := by omega
            have hE : Hid (us = unusedP ss) := Lib.hid (by
              rw [← HUN.out.2]
              exact (unP_done (fun q hq => HN.out q (by rw [HLN.out, List.take_length]; exact hq))).symm)
            have HLE := Lib.hid (HLS.out.step HW.out)
            go_wp2
            go_roundg 0
            case measure => omega
            case rel => exact ⟨false, us, ov, cv, rfl, Lib.hid ⟨HLE.out, .inr ⟨rfl, hE.out⟩⟩⟩
          | succ g2 =>
            have hlt : k < (placed 0 us).length := by have := HLN.out; omega
            obtain ⟨⟨i, j, x⟩, hq⟩ : ∃ q, (placed 0 us)[k]? = some q := ⟨_, List.getElem?_eq_getElem hlt⟩
            obtain ⟨s, hs, hx⟩ := placed_at (List.mem_of_getElem? hq)
            dsimp only at hs hx
            obtain ⟨b2, f2, rfl, hb2, q1⟩ := (HAP.out.below HW.out).at (by omega)
            obtain ⟨y0, y1⟩ := q1 k _ (plsAll_at hq)
            dsimp only at y0 y1
            have hbP := (Below.refl wr.heap.size wr).alloc (Nat.le_refl _) (.cells #[.int .i64 (i : Int), .int .i64 (j : Int)] 27)
            have RP := Row.new wr [.int .i64 (i : Int), .int .i64 (j : Int)] 27
            have HWP := Lib.hid (HW.out.trans (hbP.mono HW.out.size))
            have HLP := Lib.hid (HLS.out.step HWP.out)
            have g1 := HLP.out.box.cell (i := 0) (v := .slice ov us.length cv) (by rfl)
            have p0 := RP.cell (i := 0) (v := .int .i64 (i : Int)) (by rfl)
            have p1 := RP.cell (i := 1) (v := .int .i64 (j : Int)) (by rfl)
            have HRP := Lib.hid RP
            have HX := Lib.hid (And.intro hq (And.intro hs hx))
            have CA : Hid (Calls Tryd.prog 61 #[.agg #[.slice ov us.length cv], .agg #[.int .i64 (i : Int), .int .i64 (j : Int)]] (wr.alloc (.cells #[.int .i64 (i : Int), .int .i64 (j : Int)] 27)) fun e w' => e = .returned (.agg #[.int .i64 x.kind, .string x.name, .int .i64 x.scope]) ∧ Below (wr.alloc (.cells #[.int .i64 (i : Int), .int .i64 (j : Int)] 27)).heap.size (wr.alloc (.cells #[.int .i64 (i : Int), .int .i64 (j : Int)] 27)) w') := Lib.hid (specAt_any us HLP.out.fair.fits ov cv i j s x hs hx _ HLP.out.holds)
            have hk0 : (0 : Int) ≤ (k : Int) := by omega
            have hk1 : (k : Int) < ((plsAll (placed 0 us)).length : Int) := by omega
            clear hb2 hbP RP hq hs hx q1
            go_wp2_with fail
            refine CA.out.mono ?_
            rintro e w5 ⟨rfl, hb5⟩
            have HW5 := Lib.hid (HWP.out.trans (hb5.mono HWP.out.size))
            have HL5 := Lib.hid (HLS.out.step HW5.out)
            have HRP5 := Lib.hid (HRP.out.below hb5 HRP.out.lt)
            have g1 := HL5.out.box.cell (i := 0) (v := .slice ov us.length cv) (by rfl)
            have p0 := HRP5.out.cell (i := 0) (v := .int .i64 (i : Int)) (by rfl)
            have p1 := HRP5.out.cell (i := 1) (v := .int .i64 (j : Int)) (by rfl)
            clear hb5 y0 y1
            by_cases hk2 : x.kind = 2
            · have d1 : (x.kind != 2) = false := by simp [hk2]
              have d2 : (x.kind == 2) = true := by simp [hk2]
              have HNX := Lib.hid (take_none HX.out.1 HN.out (unB_ref hk2))
              clear hk2
              go_wp2
              go_roundg g2
              case measure => omega
              case rel => exact ⟨rfl, k + 1, by go_num, by omega, HNX, HW5⟩
            · have d1 : (x.kind != 2) = true := by simp [hk2]
              have d2 : (x.kind == 2) = false := by simp [hk2]
              have HUB := Lib.hid (unB_decS (ss := us) (i := i) (j := j) hk2)
              have CG := Lib.hid (l6Changed_any us HL5.out.valid HL5.out.fair ov cv i j HX.out.2.1 HX.out.2.2 w5 HL5.out.holds)
              clear hk2
              go_wp2_with fail
              refine CG.out.mono ?_
              rintro e w6 ⟨v6, rfl, hr6, hb6⟩
              obtain ⟨o6, c6, rfl⟩ := ownsRow_slice hr6
              have HW6 := Lib.hid (HW5.out.trans (hb6.mono HW5.out.size))
              have HL6 := Lib.hid (HLS.out.step HW6.out)
              have HRP6 := Lib.hid (HRP5.out.below hb6 HRP5.out.lt)
              have g1 := HL6.out.box.cell (i := 0) (v := .slice ov us.length cv) (by rfl)
              have p0 := HRP6.out.cell (i := 0) (v := .int .i64 (i : Int)) (by rfl)
              have p1 := HRP6.out.cell (i := 1) (v := .int .i64 (j : Int)) (by rfl)
              clear hr6 hb6
              by_cases hz : chgP us i j = []
              · have k0 : (((chgP us i j).length : Int) == 0) = true := by rw [hz]; rfl
                have HY : Hid (unB us (i, j, x) = true) := Lib.hid (by rw [HUB.out]; exact decide_eq_true hz)
                obtain ⟨n', hn', hlen, hun⟩ := unP_take HX.out.2.1 HX.out.2.2 HX.out.1 HN.out HY.out HUN.out.1 HUN.out.2
                have HUN2 := Lib.hid (And.intro hlen hun)
                have CR := Lib.hid (specRemove_any us HL6.out.fair.count (fun s hs => by have := HL6.out.fair.items s hs; omega) ov cv i j s x HX.out.2.1 HX.out.2.2 w6 HL6.out.holds)
                clear hz hlen hun
                go_wp2_with fail
                refine CR.out.mono ?_
                rintro e w7 ⟨v7, hs7, rfl, hO7, hb7⟩
                obtain ⟨o7, c7, rfl⟩ := ownsRow_slice hO7.row
                have HL7 := Lib.hid (HL6.out.step hb7)
                have l7 := HL7.out.box.cell (i := 0) (v := .slice ov us.length cv) (by rfl)
                have f7 := HL7.out.box.frozen 0
                have HLN2 : Hid (LeftS w (w7.setCell ⟨w.heap.size, 0, none⟩ (.slice o7 (rmvP us i j).length c7)) (rmvP us i j) o7 c7) := Lib.hid ⟨HL7.out.box.set 0 _, HL7.out.res.other (by simp) _, (hO7.other HL7.out.box (.inl (by decide)) (by decide) 0 _).holdsAtU, HL7.out.valid.rmv _ _, HL7.out.fair.rmv _ _, HL7.out.below.setCell (Nat.le_refl _) _⟩
                clear hO7 hb7
                go_wp2
                go_roundg n
                case measure => omega
                case rel => exact ⟨true, _, _, _, rfl, Lib.hid ⟨HLN2.out, .inl ⟨rfl, n', hn', HUN2.out.1, HUN2.out.2⟩⟩⟩
              · have k0 : (((chgP us i j).length : Int) == 0) = false := beq_eq_false_iff_ne.2 (by have := List.length_pos_iff.2 hz; omega)
                have HNX := Lib.hid (take_none HX.out.1 HN.out (by rw [HUB.out]; exact decide_eq_false hz))
                clear hz
                go_wp2
                go_roundg g2
                case measure => omega
                case rel => exact ⟨rfl, k + 1, by go_num, by omega, HNX, HW6⟩
end Go.Proofs.YtimcobenmgbciaaDoor
