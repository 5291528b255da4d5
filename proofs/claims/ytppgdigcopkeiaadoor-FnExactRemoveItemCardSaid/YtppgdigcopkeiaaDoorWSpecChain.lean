/-
  The walks of the given l2Scope, l2Chain, ChainOf and ScopeDepth. Condition: the argument's memory holds the graph.
-/
import Derived.Test.YtppgdigcopkeiaaDoorWSpecValid
import Derived.Test.YtppgdigcopkeiaaDoorWImplChain
namespace Go.Proofs.YtppgdigcopkeiaaDoor
open Go Go.RowKit
set_option maxRecDepth 100000 in
theorem specScope_any (ss : List Sc) (hf : FitsScopes ss) (oa : Option Addr) (cap : Nat) (n : Int) (w : World) (hc : HoldsScopes w oa ss) :
    Calls Tryd.prog 100 #[.agg #[.slice oa ss.length cap], .int .i64 n] w fun e w' => ∃ b : Bool, e = .returned (.bool b) ∧ (b = true ↔ HasScope ss n) ∧ Below w.heap.size w w' := by
  have hb0 := (Below.refl w.heap.size w).alloc (Nat.le_refl _) (.cells #[.slice oa ss.length cap] 30)
  have C := Lib.hid (specValid_any ss oa cap _ hf (hc.below hb0 (Nat.le_refl _)))
  have R := Lib.hid (Row.new w [.slice oa ss.length cap] 30)
  have HB0 := Lib.hid hb0
  have hl := hf.1
  clear hf hc hb0
  go_enter Tryd.func100, Tryd.ntmps100
  go_wp2_with fail
  refine C.out.mono ?_
  rintro e w1 ⟨b, rfl, hv, hb⟩
  have HB := Lib.hid (HB0.out.trans (hb.mono HB0.out.size))
  have c1 := (R.out.below hb R.out.lt).cell (i := 0) (by rfl)
  have HV := Lib.hid hv
  clear hb hv
  cases b
  · have HN : Hid (¬ HasScope ss n) := Lib.hid (fun h => by have := HV.out.2 h.1; cases this)
    go_wp2
    go_ret
    exact ⟨false, rfl, by simp [HN.out], HB.out⟩
  · go_wp2_with fail
    refine (l1In_any _ _ _ _).mono ?_
    rintro e w2 ⟨rfl, rfl⟩
    have HN : Hid (inB n 0 ((ss.length : Int) - 1) = true ↔ HasScope ss n) := Lib.hid (by
      unfold inB HasScope
      simp only [Bool.and_eq_true, decide_eq_true_eq]
      constructor
      · intro h; exact ⟨HV.out.1 (by first | trivial | rfl), by omega, by omega⟩
      · intro h; omega)
    generalize inB n 0 ((ss.length : Int) - 1) = q at HN ⊢
    go_wp2
    go_ret
    exact ⟨q, rfl, HN.out, HB.out⟩
/-- What a given list function with a truth answers. -/
def ListGot2 (ok : Prop) (l : List Nat) (w : World) (e : Ending) (w' : World) : Prop :=
  (¬ ok ∧ ∃ g, e = .returned (.tuple #[.slice (some ⟨g, 0, none⟩) 0 0, .bool false]) ∧ Below w.heap.size w w') ∨
  (ok ∧ ∃ v, e = .returned (.tuple #[v, .bool true]) ∧ w'.ownsRow w.heap.size 3 1 v l.length (numVals l) ∧ Below w.heap.size w w')
/-- What the given list functions leave. -/
def NumsGot (l : List Nat) (w : World) (e : Ending) (w' : World) : Prop := ∃ v, e = .returned v ∧ w'.ownsRow w.heap.size 3 1 v l.length (numVals l) ∧ Below w.heap.size w w'
theorem ownsRow_ne {w : World} {g base n size : Nat} {t e : TypeId} {vs xs : List Value} {v : Value} (hr : Row w g t vs) (ht : t ≠ e) (h : w.ownsRow base e size v n xs) : some g ≠ v.ownBlock := by
  obtain ⟨hl, h2 | ⟨g', cap, cur, hv, hB, hh, _⟩⟩ := h
  · rw [h2.1]; simp [Value.ownBlock]
  · rw [hv]
    intro e'
    simp only [Value.ownBlock, Option.some.injEq] at e'
    subst e'
    unfold Row at hr
    rw [hr] at hh
    simp at hh
    exact ht hh.2
/-- One number appended, as the operation runs it where no order is drawn. -/
theorem append_int0 {W : World} {base k : Nat} {v : Value} {xs : List Value} (hrow : W.ownsRow base 3 1 v k xs) (x : Int) (hk : k < 1000000) (hbase : base ≤ W.heap.size) (ty : TypeId) :
    ∃ v' w', (Builtin.append_ #[56, 56] ty #[v, .slice (some ⟨W.heap.size, 0, none⟩) 1 1]).run Tryd.prog (W.alloc (.cells #[.int .i64 x] 3)) = .ok v' w' ∧ w'.ownsRow base 3 1 v' (k + 1) (xs ++ [.int .i64 x]) ∧ (W.alloc (.cells #[.int .i64 x] 3)).grownBy w' v.ownBlock := by
  obtain ⟨i0, hi, hz0, hz1, hz2⟩ := info_parts infoInt
  obtain ⟨v', w', hrun, h2, h3, _, _⟩ := run_append_own_at (P := Tryd.prog) (W.alloc (.cells #[.int .i64 x] 3)) base 56 ty 3 i0 (.int .i64 0) 1 8 Tryd.underlying56 hi hz0 hz1 hz2 rfl (by decide) v k xs (hrow.alloc _) ⟨W.heap.size, 0, none⟩ 1 1 [.int .i64 x] rfl (cells_new W _ _)
    (by intro u hu; simp only [List.mem_singleton] at hu; subst hu; rfl) (by unfold maxLen; omega) (by omega) (by simp; omega)
  exact ⟨v', w', hrun, h2, h3⟩
theorem below_append {W w' : World} {base k n : Nat} {v : Value} {xs : List Value} {o : Obj} (hrow : W.ownsRow base 3 1 v k xs) (hg : (W.alloc o).grownBy w' v.ownBlock) (hb : n ≤ base) (hW : n ≤ W.heap.size) : Below n W w' := by
  refine ((Below.refl n W).alloc hW o).grown hg (by simp; omega) (fun r e => ?_)
  obtain ⟨_, h2 | ⟨g', cap, cur, hv, hB, _, _⟩⟩ := hrow
  · rw [h2.1] at e; simp [Value.ownBlock] at e
  · rw [hv] at e; simp only [Value.ownBlock, Option.some.injEq] at e; omega
set_option maxRecDepth 100000 in
set_option maxHeartbeats 1600000 in
theorem specL2Chain_any (ss : List Sc) (hv : Valid ss) (oa : Option Addr) (cap : Nat) (s0 : Nat) (hs : s0 < ss.length) (w : World) (hc : HoldsScopes w oa ss) :
    Calls Tryd.prog 149 #[.agg #[.slice oa ss.length cap], .int .i64 s0] w (NumsGot (chainP ss s0) w) := by
  have HC := Lib.hid hc
  have HK := Lib.hid hv.climbs
  have h6 := hv.count.2
  have HS := Lib.hid hs
  have R0 := Lib.hid (Row.new w [.slice oa ss.length cap] 30)
  clear hc hv hs
  go_enter Tryd.func149, Tryd.ntmps149
  go_wp2
  go_loopw [1, 5] (fun sv v wr => ∃ pre : List Nat, Row wr w.heap.size 30 [.slice oa ss.length cap] ∧ wr.ownsRow w.heap.size 3 1 v pre.length (numVals pre) ∧ Below w.heap.size w wr ∧
      ((sv = .int .i64 (-1) ∧ Hid (pre = chainP ss s0)) ∨ ∃ i : Nat, sv = .int .i64 i ∧ i < ss.length ∧ Hid (pre ++ chainP ss i = chainP ss s0))) (fun sv _ _ => (intOf sv + 1).toNat)
  case atStart =>
    refine ⟨[], R0.out.alloc _, ?_, ((Below.refl _ _).alloc (Nat.le_refl _) _).alloc (by simp) _, .inr ⟨s0, rfl, HS.out, Lib.hid rfl⟩⟩
    have h0 := World.ownsRow_made (base := w.heap.size) (e := 3) (size := 1) (w.alloc (.cells #[.slice oa ss.length cap] 30)) #[] 0 (by simp) (by unfold maxLen; omega) rfl
    rw [World.size_alloc] at h0
    exact h0
  case round =>
    obtain ⟨pre, hR, hrow, hb, ⟨rfl, hpre⟩ | ⟨i, rfl, hi, hpre⟩⟩ := hrel
    · have HP := Lib.hid (And.intro hrow hb)
      clear hrow hb
      go_wp2
      go_ret
      exact ⟨_, rfl, by have := HP.out.1; rw [hpre.out] at this; exact this, HP.out.2⟩
    · obtain ⟨c, hci⟩ : ∃ c, ss[i]? = some c := ⟨_, List.getElem?_eq_getElem hi⟩
      obtain ⟨b, off, rfl, hbb, hcell⟩ := HC.out.at (by omega)
      obtain ⟨oi, ci, a0, -, -⟩ := hcell i c hci
      have hk : pre.length < 1000000 := by
        have h1 := congrArg List.length hpre.out
        have h2 := chain_bound HK.out HS.out
        rw [List.length_append] at h1
        omega
      have HROW := Lib.hid hrow
      have HBR := Lib.hid hb
      have HRR := Lib.hid hR
      have HCI := Lib.hid hci
      obtain ⟨i0, hi0, hz0, hz1, hz2⟩ := info_parts infoInt
      have g0 := hR.cell (i := 0) (by rfl)
      have a0' := (hb.cell (p := ⟨b, off + i * 2, none⟩) hbb).trans a0
      have hbs := hb.size
      clear hR hb a0 hcell hci
      go_wp2_with (at_builtin; refine wpList_append_own _ rfl _ _ 56 rfl w.heap.size 3 i0 (.int .i64 0) 1 8 Tryd.underlying56 hi0 hz0 hz1 hz2 rfl (by decide) _ _ _ rfl (hrow.alloc _) ⟨wr.heap.size, 0, none⟩ 1 1 [.int .i64 (i : Int)] rfl rfl ?c1 ?c2 ?c3 ?c4 ?c5 ?_)
      case c1 => exact cells_new _ _ _
      case c2 => intro u hu; simp only [List.mem_singleton] at hu; subst hu; rfl
      case c3 => unfold maxLen; omega
      case c4 => omega
      case c5 => simp only [World.size_alloc]; omega
      intro v' w3 hown' hgrow _
      have hB3 := below_append HROW.out hgrow (Nat.le_refl w.heap.size) hbs
      have hR3 : Row w3 w.heap.size 30 [.slice (some ⟨b, off, none⟩) ss.length cap] := (HRR.out.alloc _).grown hgrow (ownsRow_ne HRR.out (by decide) HROW.out)
      have c0 := hR3.cell (i := 0) (by rfl)
      have a3 := (hB3.cell (p := ⟨b, off + i * 2, none⟩) hbb).trans a0'
      obtain ⟨g', cap', rfl⟩ := ownsRow_succ hown'
      have HR3 := Lib.hid hR3
      have HO := Lib.hid hown'
      have HB := Lib.hid (HBR.out.trans hB3)
      have hcs := HK.out.cases HCI.out
      clear hrow hown' hgrow hB3 hR3 a0' g0
      rcases hcs with ⟨hz, h1, h2⟩ | ⟨p, h1, hlt, h2⟩
      · rw [h1] at a3
        have HE : Hid (pre ++ [i] = chainP ss s0) := Lib.hid (by rw [← hpre.out, chain_none h2])
        clear h1 h2 hz
        go_wp2
        go_roundw
        case rel => exact ⟨pre ++ [i], HR3.out, by rw [List.length_append, numVals_snoc]; exact HO.out, HB.out, .inl ⟨rfl, HE⟩⟩
        case measure => simp only [intOf]; omega
      · rw [h1] at a3
        have HE : Hid ((pre ++ [i]) ++ chainP ss p = chainP ss s0) := Lib.hid (by rw [← hpre.out, chain_some HK.out h2, List.append_assoc]; rfl)
        clear h1 h2
        go_wp2
        go_roundw
        case rel => exact ⟨pre ++ [i], HR3.out, by rw [List.length_append, numVals_snoc]; exact HO.out, HB.out, .inr ⟨p, rfl, by omega, HE⟩⟩
        case measure => simp only [intOf]; omega
set_option maxRecDepth 100000 in
theorem specChain_any (ss : List Sc) (hf : FitsScopes ss) (oa : Option Addr) (cap : Nat) (n : Int) (w : World) (hc : HoldsScopes w oa ss) :
    Calls Tryd.prog 112 #[.agg #[.slice oa ss.length cap], .int .i64 n] w (ListGot2 (HasScope ss n) (chainP ss n.toNat) w) := by
  have hb0 := (Below.refl w.heap.size w).alloc (Nat.le_refl _) (.cells #[.slice oa ss.length cap] 30)
  have C := Lib.hid (specScope_any ss hf oa cap n _ (hc.below hb0 (Nat.le_refl _)))
  have R := Lib.hid (Row.new w [.slice oa ss.length cap] 30)
  have HB0 := Lib.hid hb0
  have HC := Lib.hid hc
  clear hf hc hb0
  go_enter Tryd.func112, Tryd.ntmps112
  go_wp2_with fail
  refine C.out.mono ?_
  rintro e w1 ⟨b, rfl, hv, hb⟩
  have HB := Lib.hid (HB0.out.trans (hb.mono HB0.out.size))
  have c1 := (R.out.below hb R.out.lt).cell (i := 0) (by rfl)
  have HV := Lib.hid hv
  clear hb hv
  cases b
  · have HN : Hid (¬ HasScope ss n) := Lib.hid (fun h => by have := HV.out.2 h; cases this)
    go_wp2
    go_ret2
    exact .inl ⟨HN.out, _, rfl, HB.out.alloc HB.out.size _⟩
  · obtain ⟨hv, h0, h1⟩ := HV.out.1 rfl
    obtain ⟨s, rfl⟩ : ∃ s : Nat, n = (s : Int) := ⟨n.toNat, by omega⟩
    have C2 := Lib.hid (specL2Chain_any ss hv oa cap s (by omega) _ (HC.out.below HB.out (Nat.le_refl _)))
    have HH := Lib.hid (And.intro hv (And.intro h0 h1))
    clear hv h0 h1
    go_wp2_with fail
    refine C2.out.mono ?_
    rintro e w2 ⟨v, rfl, hrow, hb2⟩
    have HB2 := Lib.hid (HB.out.trans (hb2.mono HB.out.size))
    have HR := Lib.hid (ownsRow_lower hrow HB.out.size)
    clear hb2 hrow
    go_wp2
    go_ret2
    exact .inr ⟨HH.out, v, rfl, HR.out, HB2.out⟩
/-- The depth, as both answer it. -/
def depthP (ss : List Sc) (s : Nat) : Int := ((chainP ss s).length : Int) - 1
def DepthGot (ss : List Sc) (n : Int) (w : World) (e : Ending) (w' : World) : Prop :=
  ((¬ HasScope ss n ∧ e = .returned (.int .i64 (-1))) ∨ (HasScope ss n ∧ e = .returned (.int .i64 (depthP ss n.toNat)))) ∧ Below w.heap.size w w'
theorem ownsRow_slice {w : World} {B : Nat} {e : TypeId} {size n : Nat} {v : Value} {xs : List Value} (h : w.ownsRow B e size v n xs) : ∃ oa cap, v = .slice oa n cap := by
  obtain ⟨_, h2 | ⟨g, cap, cur, hv, _⟩⟩ := h
  · exact ⟨none, 0, by rw [h2.1, h2.2]⟩
  · exact ⟨_, _, hv⟩
end Go.Proofs.YtppgdigcopkeiaaDoor
