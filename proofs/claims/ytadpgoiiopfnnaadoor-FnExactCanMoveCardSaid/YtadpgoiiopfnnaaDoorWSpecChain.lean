/-
  The walks of the given l2Scope, l2Chain, ChainOf and ScopeDepth. Condition: the argument's memory holds the graph.
-/
import Derived.Test.YtadpgoiiopfnnaaDoorWSpecValid
import Derived.Test.YtadpgoiiopfnnaaDoorWImplChain
namespace Go.Proofs.YtadpgoiiopfnnaaDoor
open Go Go.RowKit
set_option maxRecDepth 100000 in
theorem specScope_any (ss : List Sc) (hf : FitsScopes ss) (oa : Option Addr) (cap : Nat) (n : Int) (w : World) (hc : HoldsScopes w oa ss) :
    Calls Tryd.prog 122 #[.agg #[.slice oa ss.length cap], .int .i64 n] w fun e w' => ∃ b : Bool, e = .returned (.bool b) ∧ (b = true ↔ HasScope ss n) ∧ Below w.heap.size w w' := by
  have hb0 := (Below.refl w.heap.size w).alloc (Nat.le_refl _) (.cells #[.slice oa ss.length cap] 30)
  have C := Lib.hid (specValid_any ss oa cap _ hf (hc.below hb0 (Nat.le_refl _)))
  have R := Lib.hid (Row.new w [.slice oa ss.length cap] 30)
  have HB0 := Lib.hid hb0
  have hl := hf.1
  clear hf hc hb0
  go_enter Tryd.func122, Tryd.ntmps122
  go_wp2_with fail
  refine C.out.mono ?_
  rintro e w1 ⟨b, rfl, hv, hb⟩
  have HB := Lib.hid (HB0.out.trans (hb.mono HB0.out.size))
  have c1 := (R.out.below hb R.out.lt).cell (i := 0) (by rfl)
  have HV := Lib.hid hv
  clear hb hv
  cases b
  · have HN : Hid (¬ HasScope ss n) := Lib.hid (fun h => by have := HV.out.2 h.1; cases this)
    go_wp2
    go_ret
    exact ⟨false, rfl, by simp [HN.out], HB.out⟩
  · go_wp2_with fail
    refine (l1In_any _ _ _ _).mono ?_
    rintro e w2 ⟨rfl, rfl⟩
    have HN : Hid (inB n 0 ((ss.length : Int) - 1) = true ↔ HasScope ss n) := Lib.hid (by
      unfold inB HasScope
      simp only [Bool.and_eq_true, decide_eq_true_eq]
      constructor
      · intro h; exact ⟨HV.out.1 (by first | trivial | rfl), by omega, by omega⟩
      · intro h; omega)
    generalize inB n 0 ((ss.length : Int) - 1) = q at HN ⊢
    go_wp2
    go_ret
    exact ⟨q, rfl, HN.out, HB.out⟩
/-- What a given list function with a truth answers. -/
def ListGot2 (ok : Prop) (l : List Nat) (w : World) (e : Ending) (w' : World) : Prop :=
  (¬ ok ∧ ∃ g, e = .returned (.tuple #[.slice (some ⟨g, 0, none⟩) 0 0, .bool false]) ∧ Below w.heap.size w w') ∨
  (ok ∧ ∃ v, e = .returned (.tuple #[v, .bool true]) ∧ w'.ownsRow w.heap.size 3 1 v l.length (numVals l) ∧ Below w.heap.size w w')
/-- What the given list functions leave. -/
def NumsGot (l : List Nat) (w : World) (e : Ending) (w' : World) : Prop := ∃ v, e = .returned v ∧ w'.ownsRow w.heap.size 3 1 v l.length (numVals l) ∧ Below w.heap.size w w'
theorem ownsRow_ne {w : World} {g base n size : Nat} {t e : TypeId} {vs xs : List Value} {v : Value} (hr : Row w g t vs) (ht : t ≠ e) (h : w.ownsRow base e size v n xs) : some g ≠ v.ownBlock := by
  obtain ⟨hl, h2 | ⟨g', cap, cur, hv, hB, hh, _⟩⟩ := h
  · rw [h2.1]; simp [Value.ownBlock]
  · rw [hv]
    intro e'
    simp only [Value.ownBlock, Option.some.injEq] at e'
    subst e'
    unfold Row at hr
    rw [hr] at hh
    simp at hh
    exact ht hh.2
/-- One number appended, as the operation runs it where no order is drawn. -/
theorem append_int0 {W : World} {base k : Nat} {v : Value} {xs : List Value} (hrow : W.ownsRow base 3 1 v k xs) (x : Int) (hk : k < 1000000) (hbase : base ≤ W.heap.size) (ty : TypeId) :
    ∃ v' w', (Builtin.append_ #[115, 115] ty #[v, .slice (some ⟨W.heap.size, 0, none⟩) 1 1]).run Tryd.prog (W.alloc (.cells #[.int .i64 x] 3)) = .ok v' w' ∧ w'.ownsRow base 3 1 v' (k + 1) (xs ++ [.int .i64 x]) ∧ (W.alloc (.cells #[.int .i64 x] 3)).grownBy w' v.ownBlock := by
  obtain ⟨i0, hi, hz0, hz1, hz2⟩ := info_parts infoInt
  obtain ⟨v', w', hrun, h2, h3, _, _⟩ := run_append_own_at (P := Tryd.prog) (W.alloc (.cells #[.int .i64 x] 3)) base 115 ty 3 i0 (.int .i64 0) 1 8 Tryd.underlying115 hi hz0 hz1 hz2 rfl (by decide) v k xs (hrow.alloc _) ⟨W.heap.size, 0, none⟩ 1 1 [.int .i64 x] rfl (cells_new W _ _)
    (by intro u hu; simp only [List.mem_singleton] at hu; subst hu; rfl) (by unfold maxLen; omega) (by omega) (by simp; omega)
  exact ⟨v', w', hrun, h2, h3⟩
theorem below_append {W w' : World} {base k n : Nat} {v : Value} {xs : List Value} {o : Obj} (hrow : W.ownsRow base 3 1 v k xs) (hg : (W.alloc o).grownBy w' v.ownBlock) (hb : n ≤ base) (hW : n ≤ W.heap.size) : Below n W w' := by
  refine ((Below.refl n W).alloc hW o).grown hg (by simp; omega) (fun r e => ?_)
  obtain ⟨_, h2 | ⟨g', cap, cur, hv, hB, _, _⟩⟩ := hrow
  · rw [h2.1] at e; simp [Value.ownBlock] at e
  · rw [hv] at e; simp only [Value.ownBlock, Option.some.injEq] at e; omega
/-- The depth, as both answer it. -/
def depthP (ss : List Sc) (s : Nat) : Int := ((chainP ss s).length : Int) - 1
def DepthGot (ss : List Sc) (n : Int) (w : World) (e : Ending) (w' : World) : Prop :=
  ((¬ HasScope ss n ∧ e = .returned (.int .i64 (-1))) ∨ (HasScope ss n ∧ e = .returned (.int .i64 (depthP ss n.toNat)))) ∧ Below w.heap.size w w'
theorem ownsRow_slice {w : World} {B : Nat} {e : TypeId} {size n : Nat} {v : Value} {xs : List Value} (h : w.ownsRow B e size v n xs) : ∃ oa cap, v = .slice oa n cap := by
  obtain ⟨_, h2 | ⟨g, cap, cur, hv, _⟩⟩ := h
  · exact ⟨none, 0, by rw [h2.1, h2.2]⟩
  · exact ⟨_, _, hv⟩
theorem cell_drew {W : World} {p : Addr} {v : Value} (h : W.cell? p = some v) : W.drew.cell? p = some v := h
theorem cell_grow {W W' : World} {p : Addr} {v : Value} (hb : Below W.heap.size W W') (h : W.cell? p = some v) : W'.cell? p = some v := (hb.cell (World.block_lt_of_cell? _ _ h)).trans h
end Go.Proofs.YtadpgoiiopfnnaaDoor
