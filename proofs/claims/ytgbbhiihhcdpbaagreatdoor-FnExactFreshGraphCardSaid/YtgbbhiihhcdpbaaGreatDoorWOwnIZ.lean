/-
  The walks of impl's (*tree).ownNames and OwnNames. Conditions: the argument's memory holds the graph; the package-level errors hold errors.
-/
import Derived.Test.YtgbbhiihhcdpbaaGreatDoorJFZ
import Derived.Test.YtgbbhiihhcdpbaaGreatDoorJEZ
namespace Go.Proofs.YtgbbhiihhcdpbaaGreatDoor
open Go Go.RowKit Go.Maps
attribute [local go_sem] Oper.semAt_some
set_option maxRecDepth 100000 in
set_option maxHeartbeats 4000000 in
theorem treeOwn_any {ss : List Sc} (hv : Valid ss) {w : World} {B T M1 M2 : Nat} {v : Value} {ds : List Nd} (hT : TreeIs w B T M1 M2 v ds ss) :
    Calls Tryz.prog 73 #[.pointer (some ⟨T, 0, none⟩)] w fun e w' => e = .returned (.string (bT (ownT ss))) ∧ Below w.heap.size w w' := by
  have HV := Lib.hid hv
  have HT := Lib.hid hT
  clear hv hT
  refine (callsIn_wide (n := 6)).1 ?_
  refine callsIn_of_wp_marks Tryz.func73 rfl trivial ?_ rfl
  simp only [Tryz.ntmps73, List.size_toArray, List.length_cons, List.length_nil, Nat.reduceAdd, Nat.reduceSub, Array.replicate_succ, Array.replicate_zero, List.push_toArray, List.append_toArray, List.nil_append, List.cons_append]
  gi_wp2_with fail
  refine ⟨trivial, ?_⟩
  gi_at_call 57
  refine ((callsIn_wide (n := 5)).2 (all_any _ _)).mono ?_
  rintro e w2 ⟨rfl, rfl⟩
  gi_wp2
  have hBx : Below w.heap.size w ((w.alloc (.cells #[.string ⟨#[]⟩] 9)).alloc (.cells #[.pointer (some ⟨T, 0, none⟩)] 69)) := ((Below.refl _ _).alloc (Nat.le_refl _) _).alloc (by simp) _
  have bL := (Boxed.new w 9 (.string ⟨#[]⟩)).alloc (.cells #[.pointer (some ⟨T, 0, none⟩)] 69)
  have bN := Boxed.new (w.alloc (.cells #[.string ⟨#[]⟩] 9)) 69 (.pointer (some ⟨T, 0, none⟩))
  rw [World.size_alloc] at bN
  have hsm := HV.out.small
  refine wpIn_rangeFunc_ownH rfl (by omega) (gf := 113) (lb := #[.pointer (some ⟨w.heap.size + 1, 0, none⟩)]) rfl trivial (enters_of Tryz.func113 (by kernel_rfl) rfl)
    (all_stops 5 (by omega) (w.heap.size + 1) _ T M1 M2 v ds ss w _ HT.out.tree HT.out.hold (HT.out.ne HV.out) hsm.len hsm.items (.of_below hBx) bN.cell) CellsKept.trans (fun W l o o' _ h1 h2 h3 => cellsKept_b (w := w) W l o o' (by simp at *; omega) h1 h2 h3) (Below.refl _ _) (fun _ => rfl)
    (fun pre W => Boxed W w.heap.size 9 (.string (bT (ownS (pre.map Subtype.val)))) ∧ (CellsKept w.heap.size w W ∧ Below w.heap.size w W))
    (fun _ _ _ => False)
    (OwnFrom.and (Own.from (boxed_own w.heap.size 9 (fun pre : List (El ss) => .string (bT (ownS (pre.map Subtype.val))))) _) (OwnFrom.and (cellsKept_own w) (ownFrom_below (Nat.le_refl _) (by simp; omega))))
    (fun _ _ _ _ _ hs _ _ => hs)
    ⟨bL, .of_below hBx, hBx⟩
    (fun x a' W => ∃ Bx, Row W Bx 92 [.int .i64 x.1.2.2.kind, .string x.1.2.2.name, .int .i64 x.1.2.2.scope] ∧ w.heap.size < Bx ∧
      a' = { tmps := #[.pointer (some ⟨T, 0, none⟩), undef, .string ⟨#[]⟩, .pointer (some ⟨w.heap.size, 0, none⟩), undef, .pointer (some ⟨Bx, 0, none⟩), .pointer (some ⟨T, 0, none⟩), .func (.func 113) #[] #[.pointer (some ⟨w.heap.size + 1, 0, none⟩)], .agg #[.int .i64 (x.1.1 : Int), .int .i64 (x.1.2.1 : Int)], .agg #[.int .i64 x.1.2.2.kind, .string x.1.2.2.name, .int .i64 x.1.2.2.scope], undef, undef, undef, undef, undef, undef, undef, undef], defers := [] })
    (fun x a' _ X Y row hs hg hr => by obtain ⟨Bx, h2, h4, h5⟩ := hs; exact ⟨Bx, h2.kept_cells hg (fun r e => (hr r e).2), h4, h5⟩)
    ?assign ?body ?done ?stop
  case assign =>
    rintro l pre x W K hi hK
    dsimp only [elArgs]
    gi_wp2
    have ha : Below W.heap.size W (W.alloc (.cells #[.int .i64 x.1.2.2.kind, .string x.1.2.2.name, .int .i64 x.1.2.2.scope] 92)) := (Below.refl _ _).alloc (Nat.le_refl _) _
    obtain ⟨hB, hck, hbw⟩ := hi
    have hlt := hB.lt
    exact hK _ _ ((KeepsOthers.alloc _ _).from _) ((CellsKept.of_below ha).mono hbw.size) ⟨hB.alloc _, hck.trans ((CellsKept.of_below ha).mono hbw.size), hbw.trans (ha.mono hbw.size)⟩ ⟨W.heap.size, Row.new W [.int .i64 x.1.2.2.kind, .string x.1.2.2.name, .int .i64 x.1.2.2.scope] 92, hlt, rfl⟩
  case body =>
    rintro l pre x a' W hl _ ⟨hB, hck, hbw⟩ ⟨Bx, hx, hlx, rfl⟩ hlen
    obtain ⟨⟨i, j, it⟩, hmem⟩ := x
    have HQ : Hid (ownS ((pre ++ [(⟨(i, j, it), hmem⟩ : El ss)]).map Subtype.val) = ownS (pre.map Subtype.val) ++ if it.kind = 1 then it.name.data.toList else []) := Lib.hid (by rw [List.map_append]; exact ownS_snoc _ _)
    dsimp only at hx ⊢
    have hsl : (ownS (pre.map Subtype.val)).length ≤ 1000 := by
      have h1 := ownS_length HV.out (pre.map Subtype.val) (fun q hq => by obtain ⟨y, -, rfl⟩ := List.mem_map.1 hq; exact y.2)
      have h2 := plsOf_length 1 (pre.map Subtype.val)
      have h3 := placed_bound 0 ss 6 5 HV.out.count.2 HV.out.five
      rw [List.length_map] at h2
      omega
    have hnm : it.name.size ≤ 1 := by
      obtain ⟨b, hb, -, -⟩ := name_byte HV.out hmem
      dsimp only at hb
      have h4 := congrArg List.length hb
      rw [Array.length_toList] at h4
      exact Nat.le_of_eq h4
    have hbs := bT_size (ownS (pre.map Subtype.val))
    have n1 : ¬ 9223372036854775807 < (bT (ownS (pre.map Subtype.val))).size + it.name.size := by omega
    have x0 := hx.cell (i := 0) (by rfl)
    have x1 := hx.cell (i := 1) (by rfl)
    have b0 := hB.cell
    have f0 := hB.frozen
    have HCB := Lib.hid (And.intro hck hbw)
    by_cases he : it.kind = 1
    · have hq : (it.kind == 1) = true := by simpa using he
      have HE : Hid (ownS ((pre ++ [(⟨(i, j, it), hmem⟩ : El ss)]).map Subtype.val) = ownS (pre.map Subtype.val) ++ it.name.data.toList) := Lib.hid (by rw [HQ.out, if_pos he])
      have HP := Lib.hid (And.intro (hB.set (.string (bT (ownS (pre.map Subtype.val)) ++ it.name))) ((Below.refl w.heap.size W).setCell (p := ⟨w.heap.size, 0, none⟩) (Nat.le_refl _) (.string (bT (ownS (pre.map Subtype.val)) ++ it.name))))
      clear hB hck hbw he hx hsl hnm hbs
      gi_wp2
      refine ⟨(KeepsOthers.setCell _ _ _).from _, .of_below HP.out.2, ?_, HCB.out.1.trans (.of_below HP.out.2), HCB.out.2.trans HP.out.2⟩
      rw [HE.out, ← bT_append]
      exact HP.out.1
    · have hq : (it.kind == 1) = false := by simpa using he
      have HE : Hid (ownS ((pre ++ [(⟨(i, j, it), hmem⟩ : El ss)]).map Subtype.val) = ownS (pre.map Subtype.val)) := Lib.hid (by rw [HQ.out, if_neg he, List.append_nil])
      have HP := Lib.hid hB
      clear hB hck hbw he hx hsl hnm hbs
      gi_wp2
      refine ⟨KeepsFrom.refl _ _, CellsKept.refl _ _, ?_, HCB.out.1, HCB.out.2⟩
      rw [HE.out]
      exact HP.out
  case done =>
    rintro D xs W hD hS ⟨hB, hck, hbw⟩ hK
    have cB := hB.cell
    have HS2 : Hid (ownS (xs.map Subtype.val) = ownT ss) := Lib.hid (by rw [hS]; rfl)
    have HBW := Lib.hid hbw
    clear hS hck
    gi_wp2
    refine ⟨by simp, .inl ⟨_, _, rfl, run_takeDeferred hK, ?_⟩⟩
    refine ⟨_, results_tmp rfl _ _ _, by rw [HS2.out]; rfl, ?_⟩
    exact HBW.out.trans (belowK_b (w := w) (Nat.le_refl _) W D _ _ (Nat.le_trans hBx.size hD) hK rfl rfl)
  case stop =>
    rintro D c pre W _ _ h _
    exact h.elim
set_option maxRecDepth 100000 in
set_option maxHeartbeats 4000000 in
theorem implOwnNames_any (ss : List Sc) (hF : Fair ss) (oa : Option Addr) (cap : Nat) (w : World) (hc : HoldsScopes w oa ss) (hE : TreeErrs w) :
    Calls Tryz.prog 28 #[.agg #[.slice oa ss.length cap]] w fun e w' => ∃ (T : ByteArray) (ok : Bool), e = .returned (.tuple #[.string T, .bool ok]) ∧ ownR ss T ok ∧ Below w.heap.size w w' := by
  have hb0 := (Below.refl w.heap.size w).alloc (Nat.le_refl _) (.cells #[.slice oa ss.length cap] 25)
  have C := Lib.hid (hF.tree oa cap _ (hc.below hb0 (Nat.le_refl _)) (hE.below hb0 hE.size))
  have HB0 := Lib.hid hb0
  clear hF hc hE hb0
  go_enter Tryz.func28, Tryz.ntmps28
  go_wp2_with fail
  refine C.out.mono ?_
  rintro e w1 (⟨hv, ⟨tp, p, rfl⟩, hb⟩ | ⟨hv, T, M1, M2, v, ds, rfl, hb, hT⟩)
  · have HN := Lib.hid (And.intro hv (HB0.out.trans (hb.mono HB0.out.size)))
    clear hv hb
    go_wp2
    go_ret2
    exact ⟨_, _, rfl, .inl ⟨HN.out.1, rfl, rfl⟩, HN.out.2⟩
  · have HN := Lib.hid (And.intro hv (HB0.out.trans (hb.mono HB0.out.size)))
    have C2 := Lib.hid (treeOwn_any hv hT)
    clear hv hb hT
    go_wp2_with fail
    refine C2.out.mono ?_
    rintro e w2 ⟨rfl, hb2⟩
    have HB2 := Lib.hid (HN.out.2.trans (hb2.mono HN.out.2.size))
    clear hb2
    go_wp2
    go_ret2
    exact ⟨_, _, rfl, .inr ⟨HN.out.1, rfl, rfl⟩, HB2.out⟩
end Go.Proofs.YtgbbhiihhcdpbaaGreatDoor
