/-
  The walk of impl's ChainOf: a scope and all around it, in a list of its own. Conditions: the argument's memory holds the graph; the package-level errors hold errors.
-/
import Derived.Test.YtppgdigcopkeiaaDoorWNode
import Derived.Maps.AppendAt
import Derived.RangeFuncBox
namespace Go.Proofs.YtppgdigcopkeiaaDoor
open Go Go.RowKit Go.Maps
attribute [local go_sem] Oper.semAt_some
theorem infoInt : (Tryd.prog.info? 3).map (fun i => (i.zero, i.size, i.bytes)) = some (some (.int .i64 0), 1, 8) := by kernel_rfl
/-- One number appended, as the operation runs it. -/
theorem append_int {W : World} {base k : Nat} {v : Value} {xs : List Value} (hrow : W.ownsRow base 3 1 v k xs) (x : Int) (hk : k < 1000000) (hbase : base ≤ W.heap.size) (ty : TypeId) :
    ∃ v' w', (Builtin.append_ #[56, 56] ty #[v, .slice (some ⟨W.heap.size, 0, none⟩) 1 1]).run Tryd.prog (W.alloc (.cells #[.int .i64 x] 3)).drew = .ok v' w' ∧ w'.ownsRow base 3 1 v' (k + 1) (xs ++ [.int .i64 x]) ∧ (W.alloc (.cells #[.int .i64 x] 3)).grownBy w' v.ownBlock := by
  obtain ⟨i0, hi, hz0, hz1, hz2⟩ := info_parts infoInt
  obtain ⟨v', w', hrun, h2, h3, _, _⟩ := run_append_own_at (P := Tryd.prog) (W.alloc (.cells #[.int .i64 x] 3)).drew base 56 ty 3 i0 (.int .i64 0) 1 8 Tryd.underlying56 hi hz0 hz1 hz2 rfl (by decide) v k xs (hrow.alloc _).drew ⟨W.heap.size, 0, none⟩ 1 1 [.int .i64 x] rfl (cells_new W _ _)
    (by intro u hu; simp only [List.mem_singleton] at hu; subst hu; rfl) (by unfold maxLen; omega) (by omega) (by show base ≤ (W.alloc _).heap.size; simp; omega)
  exact ⟨v', w', hrun, h2, ⟨h3.os, h3.tape, h3.output, h3.size, h3.block⟩⟩
def numVals (l : List Nat) : List Value := l.map fun (m : Nat) => Value.int .i64 (m : Int)
/-- What a list box holds. -/
def ListBox (W : World) (n0 B : Nat) (t : TypeId) (l : List Nat) : Prop := ∃ v, Boxed W B t v ∧ W.ownsRow n0 3 1 v l.length (numVals l)
/-- What ChainOf answers. -/
def ListGot (ok : Prop) (l : List Nat) (w : World) (e : Ending) (w' : World) : Prop :=
  (¬ ok ∧ e = .returned (.tuple #[.slice none 0 0, .bool false]) ∧ Below w.heap.size w w') ∨
  (ok ∧ ∃ v, e = .returned (.tuple #[v, .bool true]) ∧ w'.ownsRow w.heap.size 3 1 v l.length (numVals l) ∧ Below w.heap.size w w')
theorem ownsRow_lower {w : World} {B B' : Nat} {e : TypeId} {size n : Nat} {v : Value} {xs : List Value} (h : w.ownsRow B e size v n xs) (hB : B' ≤ B) : w.ownsRow B' e size v n xs := by
  obtain ⟨hl, h2 | ⟨g, cap, cur, hv, hg, hr⟩⟩ := h
  · exact ⟨hl, .inl h2⟩
  · exact ⟨hl, .inr ⟨g, cap, cur, hv, Nat.le_trans hB hg, hr⟩⟩
theorem numVals_snoc (l : List Nat) (m : Nat) : numVals (l ++ [m]) = numVals l ++ [.int .i64 (m : Int)] := by simp [numVals]
theorem cellsKept_own {α : Type} (w0 : World) {n : Nat} : OwnFrom n (fun (_ : α) W => CellsKept w0.heap.size w0 W) :=
  fun _ _ _ _ hs hg hr => ⟨Nat.le_trans hs.size hg.size, fun g vs t fr hlt hh => by
    have h1 := hs.block g vs t fr hlt hh
    refine (hg.block g (Array.getElem?_eq_some_iff.1 h1).1 (fun e => ?_)).trans h1
    obtain ⟨_, o, ho, hc⟩ := hr g e.symm
    rw [h1] at ho
    cases ho
    cases hc⟩
set_option maxRecDepth 100000 in
set_option maxHeartbeats 4000000 in
theorem implChain_any (ss : List Sc) (hF : Fair ss) (oa : Option Addr) (cap : Nat) (n : Int) (w : World) (hc : HoldsScopes w oa ss) (hE : NodeErrs w) :
    Calls Tryd.prog 48 #[.agg #[.slice oa ss.length cap], .int .i64 n] w (ListGot (HasScope ss n) (chainP ss n.toNat) w) := by
  have hb0 := (Below.refl w.heap.size w).alloc (Nat.le_refl _) (.cells #[.slice oa ss.length cap] 30)
  have C := Lib.hid ((callsIn_wide (n := 5)).2 (nodeOf_any ss hF oa cap n _ (hc.below hb0 (Nat.le_refl _)) (hE.at hb0)))
  have HB0 := Lib.hid hb0
  clear hF hc hE hb0
  refine (callsIn_wide (n := 6)).1 ?_
  refine callsIn_of_wp_marks Tryd.func48 rfl trivial ?_ rfl
  simp only [Tryd.ntmps48, List.size_toArray, List.length_cons, List.length_nil, Nat.reduceAdd, Nat.reduceSub, Array.replicate_succ, Array.replicate_zero, List.push_toArray, List.append_toArray, List.nil_append, List.cons_append]
  gi_wp2_with fail
  refine ⟨trivial, ?_⟩
  gi_at_call 104
  refine C.out.mono ?_
  rintro e w1 (⟨hv, ⟨tp, p, rfl⟩, hb⟩ | ⟨hv, s, d, T, M1, M2, v, ds, rfl, hs, hd, rfl, hb, hT⟩)
  · have HV := Lib.hid hv
    have HB := Lib.hid (HB0.out.trans (hb.mono HB0.out.size))
    clear hv hb
    gi_wp2
    exact ⟨_, results_tmp2 rfl _ _ _, .inl ⟨HV.out, rfl, HB.out⟩⟩
  · have HV : Hid (HasScope ss (s : Int)) := Lib.hid ⟨hv, by omega, by omega⟩
    have HB := Lib.hid (HB0.out.trans (hb.mono HB0.out.size))
    have HT := Lib.hid hT
    have HD := Lib.hid hd
    have HC := Lib.hid hv.climbs
    have H6 := Lib.hid hv.count.2
    have HS := Lib.hid hs
    clear hv hb hT hd hs
    gi_wp2_with fail
    refine ⟨trivial, ?_⟩
    gi_at_call 115
    refine ((callsIn_wide (n := 5)).2 (outward_any _ _)).mono ?_
    rintro e w2 ⟨rfl, rfl⟩
    gi_wp2
    have hW2 : Below w1.heap.size w1 ((w1.alloc (.cells #[.slice none 0 0] 56)).alloc (.cells #[.pointer (some ⟨d.blk, 0, none⟩)] 109)) := ((Below.refl _ _).alloc (Nat.le_refl _) _).alloc (by simp) _
    have bL := (Boxed.new w1 56 (.slice none 0 0)).alloc (.cells #[.pointer (some ⟨d.blk, 0, none⟩)] 109)
    have bN := Boxed.new (w1.alloc (.cells #[.slice none 0 0] 56)) 109 (.pointer (some ⟨d.blk, 0, none⟩))
    rw [World.size_alloc] at bN
    refine wpIn_rangeFunc_ownH rfl (by omega) (gf := 152) (lb := #[.pointer (some ⟨w1.heap.size + 1, 0, none⟩)]) rfl trivial (enters_of Tryd.func152 (by kernel_rfl) rfl)
      (outward_stops 5 (by omega) (w1.heap.size + 1) w.heap.size T M1 M2 v ds ss w1 _ (HT.out.tree.lower (by simp)) HT.out.pars HC.out HT.out.hold.len s d HD.out (.of_below hW2) bN.cell) CellsKept.trans (fun W l o o' _ h1 h2 h3 => cellsKept_b (w := w1) W l o o' (by simp at *; omega) h1 h2 h3) (Below.refl _ _) (fun _ => rfl)
      (fun pre W => (∃ u, Boxed W w1.heap.size 56 u ∧ W.ownsRow w1.heap.size 3 1 u pre.length (numVals (pre.map NdOf.num)) ∧ True) ∧ (CellsKept w1.heap.size w1 W ∧ Below w1.heap.size w1 W))
      (fun _ _ _ => False)
      (OwnFrom.and (Own.from (holdsRow_own w1.heap.size w1.heap.size 56 3 1 (fun pre : List (NdOf ds) => pre.length) (fun pre => numVals (pre.map NdOf.num)) (fun _ _ => True)) _) (OwnFrom.and (cellsKept_own w1) (ownFrom_below (Nat.le_refl _) (by simp; omega))))
      (fun _ _ _ _ _ hs _ _ => hs)
      ⟨⟨_, bL, World.ownsRow_nil _ _ _ _, trivial⟩, .of_below hW2, hW2⟩
      (fun x a' _ => a' = { tmps := #[.agg #[.slice oa ss.length cap], .int .i64 s, .pointer (some ⟨w.heap.size, 0, none⟩), undef, .slice none 0 0, .bool false, .pointer (some ⟨T, 0, none⟩), .pointer (some ⟨d.blk, 0, none⟩), .nilIface, .pointer (some ⟨w1.heap.size, 0, none⟩), .pointer (some ⟨x.1.2.blk, 0, none⟩),
        .tuple #[.pointer (some ⟨T, 0, none⟩), .pointer (some ⟨d.blk, 0, none⟩), .nilIface], .agg #[.slice oa ss.length cap], .int .i64 s, .tuple #[.pointer (some ⟨T, 0, none⟩), .pointer (some ⟨d.blk, 0, none⟩), .nilIface], .pointer (some ⟨T, 0, none⟩), .pointer (some ⟨d.blk, 0, none⟩), .nilIface, .nilIface, .bool false, .pointer (some ⟨d.blk, 0, none⟩),
        .func (.func 152) #[] #[.pointer (some ⟨w1.heap.size + 1, 0, none⟩)], .pointer (some ⟨x.1.2.blk, 0, none⟩), undef, undef, undef, undef, undef, undef, undef, undef], defers := [] })
      (fun _ _ _ _ _ _ hs _ _ => hs)
      ?assign ?body ?done ?stop
    case assign =>
      rintro l pre x W K hi hK
      dsimp only [ndArgs]
      gi_wp2
      exact hK _ _ (KeepsFrom.refl _ _) (CellsKept.refl _ _) hi rfl
    case body =>
      rintro l pre x a' W hl _ ⟨⟨u, hB, hrow, -⟩, hck, hbw⟩ rfl hlen
      obtain ⟨⟨i, c⟩, hci⟩ := x
      dsimp only
      have hcell := (((HT.out.tree.kept hck (Nat.le_refl _)).node i c hci).2.cell (i := 0) (v := .int .i64 (i : Int)) (by rfl))
      have hlen' : pre.length < 1000000 := by have := chain_bound HC.out HS.out; have := H6.out; omega
      obtain ⟨v', w3, hrun, hown', hgrow⟩ := append_int hrow (i : Int) hlen' hbw.size 56
      obtain ⟨g', cap', rfl⟩ := ownsRow_succ hown'
      simp [go_sem] at hrun
      obtain ⟨hv1, hv2, hr2, hk2, hb2⟩ := hB.appended (by decide) hrow hbw.size (Nat.le_refl _) hown' hgrow
      have HQ : Hid (numVals (List.map NdOf.num (pre ++ [(⟨(i, c), hci⟩ : NdOf ds)])) = numVals (pre.map NdOf.num) ++ [.int .i64 (i : Int)]) := Lib.hid (by rw [List.map_append]; exact numVals_snoc _ _)
      have HQL : Hid ((pre ++ [(⟨(i, c), hci⟩ : NdOf ds)]).length = pre.length + 1) := Lib.hid (by simp)
      have c0 := hB.cell
      have c0' := (hB.alloc (.cells #[.int .i64 (i : Int)] 3)).cell
      have c1 := hv1.cell
      have f1 := hv1.frozen
      have HP := Lib.hid (And.intro hv2 (And.intro hr2 (And.intro hk2 hb2)))
      have HBW := Lib.hid (And.intro hck hbw)
      clear hB hrow hck hbw hown' hgrow hv1 hv2 hr2 hk2 hb2
      gi_wp2
      gi_region_with fail
      all_goals gi_wp2
      all_goals (refine ⟨HP.out.2.2.1.from _, .of_below HP.out.2.2.2, ⟨_, HP.out.1, ?_, trivial⟩, HBW.out.1.trans (.of_below HP.out.2.2.2), HBW.out.2.trans HP.out.2.2.2⟩; rw [HQ.out, HQL.out]; exact HP.out.2.1)
    case done =>
      rintro D xs W hD hS ⟨⟨u, hB, hrow, -⟩, hck, hbw⟩ hK
      have cB := hB.cell
      have HS2 := Lib.hid hS
      clear hS
      gi_wp2
      refine ⟨by simp, .inl ⟨_, _, rfl, run_takeDeferred hK, ?_⟩⟩
      have hrow2 := ownsRow_lower (ownsRow_putObj hrow (.deferred none) hK rfl) (show w.heap.size ≤ w1.heap.size from HB.out.size)
      have hl2 : xs.length = (chainP ss s).length := by rw [← HS2.out, List.length_map]
      rw [HS2.out, hl2] at hrow2
      have hend : Below w.heap.size w (W.putObj D (.deferred none)) := HB.out.trans ((hbw.mono HB.out.size).trans (belowK_b (w := w) (Nat.le_refl _) W D _ _ (by have := HB.out.size; simp at hD; omega) hK rfl rfl))
      exact ⟨_, results_tmp2 rfl _ _ _, .inr ⟨HV.out, u, rfl, by simpa using hrow2, hend⟩⟩
    case stop =>
      rintro D c pre W _ _ h _
      exact h.elim
theorem row_own {α : Type} (n g : Nat) (t : TypeId) (f : α → List Value) : OwnFrom n (fun (s : α) W => Row W g t (f s)) :=
  fun _ _ _ _ hs hg hr => hs.grown hg (fun e => by
    obtain ⟨_, o, ho, hc⟩ := hr g e.symm
    unfold Row at hs
    rw [hs] at ho
    cases ho
    cases hc)
end Go.Proofs.YtppgdigcopkeiaaDoor
