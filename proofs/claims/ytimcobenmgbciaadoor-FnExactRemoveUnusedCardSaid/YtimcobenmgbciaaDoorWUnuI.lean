/-
  The walk of impl's RemoveUnused. Conditions: the argument's memory holds the graph; the package-level errors hold errors.
-/
import Derived.Test.YtimcobenmgbciaaDoorUnu
import Derived.Test.YtimcobenmgbciaaDoorWChg6B
import Derived.Test.YtimcobenmgbciaaDoorWRemItem
import Derived.Deep.LoopGhost
namespace Go.Proofs.YtimcobenmgbciaaDoor
open Go Go.RowKit
theorem HoldsItems.gotU {w : World} {oa : Option Addr} {xs : List It} (h : HoldsItems w oa xs) {k : Nat} {x : It} (hx : xs[k]? = some x) : ∃ b off, oa = some ⟨b, off, none⟩ ∧ b < w.heap.size ∧ w.cell? ⟨b, off + k * 3, none⟩ = some (.int .i64 x.kind) ∧ w.cell? ⟨b, off + k * 3 + 1, none⟩ = some (.string x.name) ∧ w.cell? ⟨b, off + k * 3 + 2, none⟩ = some (.int .i64 x.scope) := by
  rcases h with rfl | ⟨b, off, h1, h2, h3⟩
  · cases hx
  · exact ⟨b, off, h1, h2, h3 k x hx⟩
theorem HoldsScopes.gotU {w : World} {oa : Option Addr} {ss : List Sc} (h : HoldsScopes w oa ss) {k : Nat} {s : Sc} (hx : ss[k]? = some s) : ∃ b off, oa = some ⟨b, off, none⟩ ∧ b < w.heap.size ∧ ∃ (oi : Option Addr) (ci : Nat), w.cell? ⟨b, off + k * 2, none⟩ = some (.int .i64 s.parent) ∧ w.cell? ⟨b, off + k * 2 + 1, none⟩ = some (.slice oi s.items.length ci) ∧ HoldsItems w oi s.items := by
  rcases h with rfl | ⟨b, off, h1, h2, h3⟩
  · cases hx
  · exact ⟨b, off, h1, h2, h3 k s hx⟩
theorem unB_ref {ss : List Sc} {q : Nat × Nat × It} (h : q.2.2.kind = 2) : unB ss q = false := by unfold unB; simp [h]
theorem unB_dec {ss : List Sc} {k m : Nat} {x : It} {q : Bool} (h : x.kind ≠ 2) (hv : itemHas ss (k : Int) (m : Int)) (hc : CanVal2 (itemHas ss (k : Int) (m : Int)) (chgPI ss (k : Int) (m : Int)) q) : unB ss (k, m, x) = q := by
  unfold unB
  rcases hc with ⟨h1, _⟩ | ⟨_, h2⟩
  · exact absurd hv h1
  · rw [chgPI_nat] at h2
    rw [h2]
    simp [h]
theorem upto_none {ss : List Sc} {k m : Nat} {s : Sc} {x : It} (hs : ss[k]? = some s) (hx : s.items[m]? = some x) (hno : ∀ q ∈ uptoP ss k m, unB ss q = false) (hn : unB ss (k, m, x) = false) : ∀ q ∈ uptoP ss k (m + 1), unB ss q = false := by
  intro q hq
  rw [uptoP_next hs hx] at hq
  rcases List.mem_append.1 hq with h | h
  · exact hno q h
  · rw [List.mem_singleton.1 h]; exact hn
theorem OwnGr.holdsAtU {w : World} {B n c : Nat} {o : Option Addr} {l : List Sc} {hs : List Value} (h : OwnGr w B (.slice o n c) l hs) : HoldsScopes w o l := by
  obtain ⟨ov, cv, he, hh⟩ := h.holds
  simp only [Value.slice.injEq] at he
  rw [he.1]
  exact hh
/-- What is left, in a box. -/
structure LeftIn (w0 w : World) (B Z g : Nat) (U us : List Sc) (ov : Option Addr) (cv : Nat) (hs : List Value) : Prop where
  box : Row w Z 25 [.slice ov us.length cv]
  own : OwnGr w B (.slice ov us.length cv) us hs
  valid : Valid us
  fair : Fair us
  small : (placed 0 us).length ≤ g
  rest : unP g us = U
  below : Below w0.heap.size w0 w
set_option maxRecDepth 100000 in
set_option maxHeartbeats 16000000 in
theorem implUnused_any (ss : List Sc) (hF : Fair ss) (oa : Option Addr) (cap : Nat) (w : World) (hc : HoldsScopes w oa ss) (hE : TreeErrs w) :
    Calls Tryd.prog 41 #[.agg #[.slice oa ss.length cap]] w (GrGot (Valid ss) (unusedP ss) w) := by
  have hb0 := ((Below.refl w.heap.size w).alloc (Nat.le_refl _) (.cells #[.slice oa ss.length cap] 25)).alloc (by simp) (.cells #[.slice none 0 0] 25)
  have R1 := Lib.hid ((Row.new w [.slice oa ss.length cap] 25).alloc (.cells #[.slice none 0 0] 25))
  have R2 := Row.new (w.alloc (.cells #[.slice oa ss.length cap] 25)) [.slice none 0 0] 25
  rw [World.size_alloc] at R2
  have R2 := Lib.hid R2
  have C := Lib.hid (implValid_any ss hF oa cap _ (hc.below hb0 (Nat.le_refl _)) (hE.below hb0 hE.size))
  have HB := Lib.hid hb0
  have HF := Lib.hid hF
  have HC := Lib.hid hc
  have HE := Lib.hid hE
  have g1 := R1.out.cell (i := 0) (v := .slice oa ss.length cap) (by rfl)
  have n0 := R2.out.cell (i := 0) (v := .slice none 0 0) (by rfl)
  have f0 := R2.out.frozen 0
  clear hF hc hE hb0
  go_enter Tryd.func41, Tryd.ntmps41
  go_wp2
  go_step3
  go_wp2_with fail
  refine C.out.mono ?_
  rintro e w1 ⟨b, rfl, hv, hb1⟩
  have HV := Lib.hid hv
  have HB1 := Lib.hid (HB.out.trans (hb1.mono HB.out.size))
  have R1a := Lib.hid (R1.out.below hb1 R1.out.lt)
  have R2a := Lib.hid (R2.out.below hb1 R2.out.lt)
  have g1 := R1a.out.cell (i := 0) (v := .slice oa ss.length cap) (by rfl)
  have n0 := R2a.out.cell (i := 0) (v := .slice none 0 0) (by rfl)
  have f0 := R2a.out.frozen 0
  clear hv hb1
  cases b
  · have HN : Hid (¬ Valid ss) := Lib.hid (fun h => by have := HV.out.2 h; cases this)
    go_wp2
    have RT := R2a.out.set 0 (.slice none 0 0)
    have d0 := RT.cell (i := 0) (v := .slice none 0 0) (by rfl)
    try rw [Exit.noGoto_ret]
    refine bodyPost_ret (v := .tuple #[.agg #[.slice none 0 0], .bool false]) (by simp [results, Tryd.results41, go_sem, d0]) rfl (.inl ⟨HN.out, _, [], rfl, OwnGr.nil _ _, HB1.out.setCell (by simp) _⟩)
  · have HVV := Lib.hid (HV.out.1 rfl)
    have C3 := Lib.hid (implClone_any ss oa cap HF.out.count (fun s hs => by have := HF.out.items s hs; omega) w1 (HC.out.below HB1.out (Nat.le_refl _)))
    go_wp2_with fail
    refine C3.out.mono ?_
    rintro e w2 ⟨v, hs, rfl, hO, hb2⟩
    obtain ⟨ov, cv, rfl⟩ := ownsRow_slice hO.row
    have hbA := (Below.refl w2.heap.size w2).alloc (Nat.le_refl _) (.cells #[.slice ov ss.length cv] 25)
    have HZ : Hid (w1.heap.size ≤ w2.heap.size) := Lib.hid hb2.size
    have HLE : Hid (LeftIn w1 (w2.alloc (.cells #[.slice ov ss.length cv] 25)) w1.heap.size w2.heap.size (placed 0 ss).length (unusedP ss) ss ov cv hs) := Lib.hid ⟨Row.new w2 [.slice ov ss.length cv] 25, hO.below hbA, HVV.out, HF.out, Nat.le_refl _, rfl, hb2.trans (hbA.mono hb2.size)⟩
    clear hO hb2 hbA g1 n0 f0
    go_wp2
    go_step3
    go_wp2
    generalize w2.heap.size = Z at *
    generalize w2.alloc (.cells #[.slice ov ss.length cv] 25) = wA at *
    go_loopg [19] (placed 0 ss).length (fun g _ wr => ∃ us ov cv hs, Hid (LeftIn w1 wr w1.heap.size Z g (unusedP ss) us ov cv hs))
    case atStart => exact ⟨_, _, _, _, HLE⟩
    case round =>
      obtain ⟨us, o3, c3, hs3, HL⟩ := hrel
      obtain ⟨gO, rfl⟩ : ∃ gO, gO = gk := ⟨gk, rfl⟩
      obtain ⟨w3, rfl⟩ : ∃ w3, w3 = wr := ⟨wr, rfl⟩
      have l0 := HL.out.box.cell (i := 0) (v := .slice o3 us.length c3) (by rfl)
      have HUS := Lib.hid HL.out.own.holdsAtU
      have hul : us.length ≤ 6 := HL.out.valid.count.2
      have HR2 := Lib.hid (R2a.out.below HL.out.below R2a.out.lt)
      go_wp2
      go_loopg [19] us.length (fun g2 i wy => ∃ k : Nat, i = .int .i64 k ∧ k + g2 = us.length ∧ Hid (∀ q ∈ uptoP us k 0, unB us q = false) ∧ Hid (Below w3.heap.size w3 wy))
      case atStart => exact ⟨0, rfl, by omega, Lib.hid (fun q hq => by rw [uptoP_start] at hq; cases hq), Lib.hid (Below.refl _ _)⟩
      case round =>
        obtain ⟨k, rfl, hk, HN, HW⟩ := hrel
        cases gk with
        | zero =>
          obtain rfl : k = us.length := by omega
          have hE : Hid (us = unusedP ss) := Lib.hid (by rw [← HL.out.rest]; exact (unP_done (fun q hq => HN.out q (by rw [uptoP_all]; exact hq))).symm)
          have l0 := (HL.out.box.below HW.out HL.out.box.lt).cell (i := 0) (v := .slice o3 us.length c3) (by rfl)
          have hR2 := HR2.out.below HW.out HR2.out.lt
          have n0 := hR2.cell (i := 0) (v := .slice none 0 0) (by rfl)
          have f0 := hR2.frozen 0
          have HRR := Lib.hid hR2
          clear hR2
          go_wp2
          have RT := HRR.out.set 0 (.slice o3 us.length c3)
          have d0 := RT.cell (i := 0) (v := .slice o3 us.length c3) (by rfl)
          try rw [Exit.noGoto_ret]
          refine bodyPost_ret (v := .tuple #[.agg #[.slice o3 us.length c3], .bool true]) (by simp [results, Tryd.results41, go_sem, d0]) rfl (.inr ⟨HVV.out, _, hs3, rfl, ?_, ?_⟩)
          · rw [← hE.out]
            exact ((HL.out.own.below HW.out).other HRR.out (.inl (by decide)) (by decide) 0 _).lower HB1.out.size
          · exact (HB1.out.trans ((HL.out.below.trans (HW.out.mono HL.out.below.size)).mono HB1.out.size)).setCell (by simp) _
        | succ g2 =>
          have hlt : k < us.length := by omega
          obtain ⟨s, hs⟩ : ∃ s, us[k]? = some s := ⟨_, List.getElem?_eq_getElem hlt⟩
          have hs5 : s.items.length ≤ 5 := HL.out.valid.five s (List.mem_of_getElem? hs)
          obtain ⟨b1, f1, rfl, hb1, oi, ci, x0, x1, x2⟩ := (HUS.out.below HW.out (Nat.le_refl _)).gotU hs
          have hbA := (Below.refl wr.heap.size wr).alloc (Nat.le_refl _) (.cells #[.int .i64 s.parent, .slice oi s.items.length ci] 118)
          have RA := Row.new wr [.int .i64 s.parent, .slice oi s.items.length ci] 118
          have a1 := RA.cell (i := 1) (v := .slice oi s.items.length ci) (by rfl)
          have HI := Lib.hid (x2.below hbA (Nat.le_refl _))
          have HWA := Lib.hid (HW.out.trans (hbA.mono HW.out.size))
          have HS := Lib.hid hs
          have hk0 : (0 : Int) ≤ (k : Int) := by omega
          have hk1 : (k : Int) < (us.length : Int) := by omega
          clear hs hb1 x2 hbA RA
          go_wp2
          generalize wr.alloc (.cells #[.int .i64 s.parent, .slice oi s.items.length ci] 118) = wS at *
          clear x0 x1 a1
          go_loopg [27] s.items.length (fun g3 i wz => ∃ m : Nat, i = .int .i64 m ∧ m + g3 = s.items.length ∧ Hid (∀ q ∈ uptoP us k m, unB us q = false) ∧ Hid (Below wS.heap.size wS wz))
          case atStart => exact ⟨0, rfl, by omega, HN, Lib.hid (Below.refl _ _)⟩
          case round =>
            obtain ⟨m, rfl, hm, HT, HY⟩ := hrel
            cases gk with
            | zero =>
              obtain rfl : m = s.items.length := by omega
              have HNX : Hid (∀ q ∈ uptoP us (k + 1) 0, unB us q = false) := Lib.hid (by rw [← uptoP_scope HS.out]; exact HT.out)
              have HZZ := Lib.hid (HWA.out.trans (HY.out.mono HWA.out.size))
              go_wp2
              go_roundg g2
              case measure => omega
              case rel => exact ⟨k + 1, by go_num, by omega, HNX, HZZ⟩
            | succ g3 =>
              have hlt2 : m < s.items.length := by omega
              obtain ⟨x, hx⟩ : ∃ x, s.items[m]? = some x := ⟨_, List.getElem?_eq_getElem hlt2⟩
              obtain ⟨b2, f2, rfl, hb2, y0, y1, y2⟩ := (HI.out.below HY.out (Nat.le_refl _)).gotU hx
              have hbI := (Below.refl wr.heap.size wr).alloc (Nat.le_refl _) (.cells #[.int .i64 x.kind, .string x.name, .int .i64 x.scope] 38)
              have hbP := hbI.alloc (by simp) (.cells #[.int .i64 (k : Int), .int .i64 (m : Int)] 27)
              have RI := (Row.new wr [.int .i64 x.kind, .string x.name, .int .i64 x.scope] 38).alloc (.cells #[.int .i64 (k : Int), .int .i64 (m : Int)] 27)
              have RP := Row.new (wr.alloc (.cells #[.int .i64 x.kind, .string x.name, .int .i64 x.scope] 38)) [.int .i64 (k : Int), .int .i64 (m : Int)] 27
              rw [World.size_alloc] at RP
              have HWP := Lib.hid ((HWA.out.trans (HY.out.mono HWA.out.size)).trans (hbP.mono (Nat.le_trans HWA.out.size HY.out.size)))
              have l0 := (HL.out.box.below HWP.out HL.out.box.lt).cell (i := 0) (v := .slice (some ⟨b1, f1, none⟩) us.length c3) (by rfl)
              have i0 := RI.cell (i := 0) (v := .int .i64 x.kind) (by rfl)
              have p0 := RP.cell (i := 0) (v := .int .i64 (k : Int)) (by rfl)
              have p1 := RP.cell (i := 1) (v := .int .i64 (m : Int)) (by rfl)
              have HYP := Lib.hid (HY.out.trans (hbP.mono HY.out.size))
              have HRP := Lib.hid RP
              have HX := Lib.hid hx
              have hm0 : (0 : Int) ≤ (m : Int) := by omega
              have hm1 : (m : Int) < (s.items.length : Int) := by omega
              clear hb2 hbI hbP RI RP hx
              by_cases hk2 : x.kind = 2
              · have d1 : (x.kind != 2) = false := by simp [hk2]
                have d2 : (x.kind == 2) = true := by simp [hk2]
                have HNX : Hid (∀ q ∈ uptoP us k (m + 1), unB us q = false) := Lib.hid (upto_none HS.out HX.out HT.out (unB_ref hk2))
                clear hk2
                go_wp2
                go_roundg g3
                case measure => omega
                case rel => exact ⟨m + 1, by go_num, by omega, HNX, HYP⟩
              · have d1 : (x.kind != 2) = true := by simp [hk2]
                have d2 : (x.kind == 2) = false := by simp [hk2]
                have HK := Lib.hid hk2
                have CC := Lib.hid (implCanRemove_any us HL.out.fair (some ⟨b1, f1, none⟩) c3 (k : Int) (m : Int) (wf_small (by omega)) (wf_small (by omega)) _ (HUS.out.below HWP.out (Nat.le_refl _)) ((HE.out.below HB1.out HE.out.size).below (HL.out.below.trans (HWP.out.mono HL.out.below.size)) (HE.out.below HB1.out HE.out.size).size))
                clear hk2
                go_wp2_with fail
                refine CC.out.mono ?_
                rintro e w5 ⟨q, rfl, hcv, hb5⟩
                have HUB : Hid (unB us (k, m, x) = q) := Lib.hid (unB_dec HK.out ⟨HL.out.valid, by rw [itemAtP_nat HS.out, HX.out]; rfl⟩ hcv)
                have HB5 := Lib.hid (HWP.out.trans (hb5.mono HWP.out.size))
                have HY5 := Lib.hid (HYP.out.trans (hb5.mono HYP.out.size))
                have l5 := (HL.out.box.below HB5.out HL.out.box.lt).cell (i := 0) (v := .slice (some ⟨b1, f1, none⟩) us.length c3) (by rfl)
                have p0 := (HRP.out.below hb5 HRP.out.lt).cell (i := 0) (v := .int .i64 (k : Int)) (by rfl)
                have p1 := (HRP.out.below hb5 HRP.out.lt).cell (i := 1) (v := .int .i64 (m : Int)) (by rfl)
                clear hcv hb5 y0 y1 y2 i0
                cases q
                · have HNX : Hid (∀ q ∈ uptoP us k (m + 1), unB us q = false) := Lib.hid (upto_none HS.out HX.out HT.out HUB.out)
                  go_wp2
                  go_roundg g3
                  case measure => omega
                  case rel => exact ⟨m + 1, by go_num, by omega, HNX, HY5⟩
                · obtain ⟨n', hn', hlen, hun⟩ := unP_at HS.out HX.out HT.out HUB.out HL.out.small HL.out.rest
                  have HUN := Lib.hid (And.intro hlen hun)
                  have CW := Lib.hid (without_any us HL.out.fair (some ⟨b1, f1, none⟩) c3 k m s x HS.out HX.out w5 (HUS.out.below HB5.out (Nat.le_refl _)))
                  clear hlen hun
                  go_wp2_with fail
                  refine CW.out.mono ?_
                  rintro e w6 ⟨v6, hs6, rfl, hO6, hb6⟩
                  obtain ⟨o6, c6, rfl⟩ := ownsRow_slice hO6.row
                  have HB6 := Lib.hid (HB5.out.trans (hb6.mono HB5.out.size))
                  have HBX := Lib.hid (HL.out.box.below HB6.out HL.out.box.lt)
                  have l6 := HBX.out.cell (i := 0) (v := .slice (some ⟨b1, f1, none⟩) us.length c3) (by rfl)
                  have f6 := HBX.out.frozen 0
                  have HLN : Hid (LeftIn w1 (w6.setCell ⟨Z, 0, none⟩ (.slice o6 (rmvP us k m).length c6)) w1.heap.size Z n' (unusedP ss) (rmvP us k m) o6 c6 hs6) := Lib.hid ⟨HBX.out.set 0 _, (hO6.other HBX.out (.inl (by decide)) (by decide) 0 _).lower (Nat.le_trans HL.out.below.size HB5.out.size), HL.out.valid.rmv _ _, HL.out.fair.rmv _ _, HUN.out.1, HUN.out.2, (HL.out.below.trans (HB6.out.mono HL.out.below.size)).setCell HZ.out _⟩
                  clear hO6 hb6
                  go_wp2
                  go_roundg n'
                  case measure => omega
                  case rel => exact ⟨_, _, _, _, HLN⟩
end Go.Proofs.YtimcobenmgbciaaDoor
