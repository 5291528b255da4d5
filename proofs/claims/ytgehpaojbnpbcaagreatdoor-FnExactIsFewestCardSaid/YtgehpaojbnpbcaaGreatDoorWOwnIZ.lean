/-
  The walks of impl's (*tree).ownNames and OwnNames. Conditions: the argument's memory holds the graph; the package-level errors hold errors.
-/
import Derived.Test.YtgehpaojbnpbcaaGreatDoorJFZ
import Derived.Test.YtgehpaojbnpbcaaGreatDoorJEZ
namespace Go.Proofs.YtgehpaojbnpbcaaGreatDoor
open Go Go.RowKit Go.Maps
attribute [local go_sem] Oper.semAt_some
set_option maxRecDepth 100000 in
set_option maxHeartbeats 4000000 in
theorem treeOwn_any {ss : List Sc} (hv : Valid ss) {w : World} {B T M1 M2 : Nat} {v : Value} {ds : List Nd} (hT : TreeIs w B T M1 M2 v ds ss) :
    Calls Tryz.prog 87 #[.pointer (some ⟨T, 0, none⟩)] w fun e w' => e = .returned (.string (bT (ownT ss))) ∧ Below w.heap.size w w' := by
  have HV := Lib.hid hv
  have HT := Lib.hid hT
  clear hv hT
  refine (callsIn_wide (n := 6)).1 ?_
  refine callsIn_of_wp_marks Tryz.func87 rfl trivial ?_ rfl
  simp only [Tryz.ntmps87, List.size_toArray, List.length_cons, List.length_nil, Nat.reduceAdd, Nat.reduceSub, Array.replicate_succ, Array.replicate_zero, List.push_toArray, List.append_toArray, List.nil_append, List.cons_append]
  gi_wp2_with fail
  refine ⟨trivial, ?_⟩
  gi_at_call 93
  refine ((callsIn_wide (n := 5)).2 (all_any _ _)).mono ?_
  rintro e w2 ⟨rfl, rfl⟩
  gi_wp2
  have hBx : Below w.heap.size w ((w.alloc (.cells #[.string ⟨#[]⟩] 9)).alloc (.cells #[.pointer (some ⟨T, 0, none⟩)] 124)) := ((Below.refl _ _).alloc (Nat.le_refl _) _).alloc (by simp) _
  have bL := (Boxed.new w 9 (.string ⟨#[]⟩)).alloc (.cells #[.pointer (some ⟨T, 0, none⟩)] 124)
  have bN := Boxed.new (w.alloc (.cells #[.string ⟨#[]⟩] 9)) 124 (.pointer (some ⟨T, 0, none⟩))
  rw [World.size_alloc] at bN
  have hsm := HV.out.small
  refine wpIn_rangeFunc_ownH rfl (by omega) (gf := 115) (lb := #[.pointer (some ⟨w.heap.size + 1, 0, none⟩)]) rfl trivial (enters_of Tryz.func115 (by kernel_rfl) rfl)
    (all_stops 5 (by omega) (w.heap.size + 1) _ T M1 M2 v ds ss w _ HT.out.tree HT.out.hold (HT.out.ne HV.out) hsm.len hsm.items (.of_below hBx) bN.cell) CellsKept.trans (fun W l o o' _ h1 h2 h3 => cellsKept_b (w := w) W l o o' (by simp at *; omega) h1 h2 h3) (Below.refl _ _) (fun _ => rfl)
    (fun pre W => Boxed W w.heap.size 9 (.string (bT (ownS (pre.map Subtype.val)))) ∧ (CellsKept w.heap.size w W ∧ Below w.heap.size w W))
    (fun _ _ _ => False)
    (OwnFrom.and (Own.from (boxed_own w.heap.size 9 (fun pre : List (El ss) => .string (bT (ownS (pre.map Subtype.val))))) _) (OwnFrom.and (cellsKept_own w) (ownFrom_below (Nat.le_refl _) (by simp; omega))))
    (fun _ _ _ _ _ hs _ _ => hs)
    ⟨bL, .of_below hBx, hBx⟩
    (fun x a' W => ∃ Bx, Row W Bx 137 [.int .i64 x.1.2.2.kind, .string x.1.2.2.name, .int .i64 x.1.2.2.scope] ∧ w.heap.size < Bx ∧
      a' = { tmps := #[.pointer (some ⟨T, 0, none⟩), undef, .string ⟨#[]⟩, .pointer (some ⟨w.heap.size, 0, none⟩), undef, .pointer (some ⟨Bx, 0, none⟩), .pointer (some ⟨T, 0, none⟩), .func (.func 115) #[] #[.pointer (some ⟨w.heap.size + 1, 0, none⟩)], .agg #[.int .i64 (x.1.1 : Int), .int .i64 (x.1.2.1 : Int)], .agg #[.int .i64 x.1.2.2.kind, .string x.1.2.2.name, .int .i64 x.1.2.2.scope], undef, undef, undef, undef, undef, undef, undef, undef], defers := [] })
    (fun x a' _ X Y row hs hg hr => by obtain ⟨Bx, h2, h4, h5⟩ := hs; exact ⟨Bx, h2.kept_cells hg (fun r e => (hr r e).2), h4, h5⟩)
    ?assign ?body ?done ?stop
  case assign =>
    rintro l pre x W K hi hK
    dsimp only [elArgs]
    gi_wp2
    have ha : Below W.heap.size W (W.alloc (.cells #[.int .i64 x.1.2.2.kind, .string x.1.2.2.name, .int .i64 x.1.2.2.scope] 137)) := (Below.refl _ _).alloc (Nat.le_refl _) _
    obtain ⟨hB, hck, hbw⟩ := hi
    have hlt := hB.lt
    exact hK _ _ ((KeepsOthers.alloc _ _).from _) ((CellsKept.of_below ha).mono hbw.size) ⟨hB.alloc _, hck.trans ((CellsKept.of_below ha).mono hbw.size), hbw.trans (ha.mono hbw.size)⟩ ⟨W.heap.size, Row.new W [.int .i64 x.1.2.2.kind, .string x.1.2.2.name, .int .i64 x.1.2.2.scope] 137, hlt, rfl⟩
  case body =>
    rintro l pre x a' W hl _ ⟨hB, hck, hbw⟩ ⟨Bx, hx, hlx, rfl⟩ hlen
    obtain ⟨⟨i, j, it⟩, hmem⟩ := x
    have HQ : Hid (ownS ((pre ++ [(⟨(i, j, it), hmem⟩ : El ss)]).map Subtype.val) = ownS (pre.map Subtype.val) ++ if it.kind = 1 then it.name.data.toList else []) := Lib.hid (by rw [List.map_append]; exact ownS_snoc _ _)
    dsimp only at hx ⊢
    have hsl : (ownS (pre.map Subtype.val)).length ≤ 1000 := by
      have h1 := ownS_length HV.out (pre.map Subtype.val) (fun q hq => by obtain ⟨y, -, rfl⟩ := List.mem_map.1 hq; exact y.2)
      have h2 := plsOf_length 1 (pre.map Subtype.val)
      have h3 := placed_bound 0 ss 6 5 HV.out.count.2 HV.out.five
      rw [List.length_map] at h2
      omega
    have hnm : it.name.size ≤ 1 := by
      obtain ⟨b, hb, -, -⟩ := name_byte HV.out hmem
      dsimp only at hb
      have h4 := congrArg List.length hb
      rw [Array.length_toList] at h4
      exact Nat.le_of_eq h4
    have hbs := bT_size (ownS (pre.map Subtype.val))
    have n1 : ¬ 9223372036854775807 < (bT (ownS (pre.map Subtype.val))).size + it.name.size := by omega
    have x0 := hx.cell (i := 0) (by rfl)
    have x1 := hx.cell (i := 1) (by rfl)
    have b0 := hB.cell
    have f0 := hB.frozen
    have HCB := Lib.hid (And.intro hck hbw)
    by_cases he : it.kind = 1
    · have hq : (it.kind == 1) = true := by simpa using he
      have HE : Hid (ownS ((pre ++ [(⟨(i, j, it), hmem⟩ : El ss)]).map Subtype.val) = ownS (pre.map Subtype.val) ++ it.name.data.toList) := Lib.hid (by rw [HQ.out, if_pos he])
      have HP := Lib.hid (And.intro (hB.set (.string (bT (ownS (pre.map Subtype.val)) ++ it.name))) ((Below.refl w.heap.size W).setCell (p := ⟨w.heap.size, 0, none⟩) (Nat.le_refl _) (.string (bT (ownS (pre.map Subtype.val)) ++ it.name))))
      clear hB hck hbw he hx hsl hnm hbs
      gi_wp2
      refine ⟨(KeepsOthers.setCell _ _ _).from _, .of_below HP.out.2, ?_, HCB.out.1.trans (.of_below HP.out.2), HCB.out.2.trans HP.out.2⟩
      rw [HE.out, ← bT_append]
      exact HP.out.1
    · have hq : (it.kind == 1) = false := by simpa using he
      have HE : Hid (ownS ((pre ++ [(⟨(i, j, it), hmem⟩ : El ss)]).map Subtype.val) = ownS (pre.map Subtype.val)) := Lib.hid (by rw [HQ.out, if_neg he, List.append_nil])
      have HP := Lib.hid hB
      clear hB hck hbw he hx hsl hnm hbs
      gi_wp2
      refine ⟨KeepsFrom.refl _ _, CellsKept.refl _ _, ?_, HCB.out.1, HCB.out.2⟩
      rw [HE.out]
      exact HP.out
  case done =>
    rintro D xs W hD hS ⟨hB, hck, hbw⟩ hK
    have cB := hB.cell
    have HS2 : Hid (ownS (xs.map Subtype.val) = ownT ss) := Lib.hid (by rw [hS]; rfl)
    have HBW := Lib.hid hbw
    clear hS hck
    gi_wp2
    refine ⟨by simp, .inl ⟨_, _, rfl, run_takeDeferred hK, ?_⟩⟩
    refine ⟨_, results_tmp rfl _ _ _, by rw [HS2.out]; rfl, ?_⟩
    exact HBW.out.trans (belowK_b (w := w) (Nat.le_refl _) W D _ _ (Nat.le_trans hBx.size hD) hK rfl rfl)
  case stop =>
    rintro D c pre W _ _ h _
    exact h.elim
set_option maxRecDepth 100000 in
set_option maxHeartbeats 4000000 in
theorem implOwnNames_any (ss : List Sc) (hF : Fair ss) (oa : Option Addr) (cap : Nat) (w : World) (hc : HoldsScopes w oa ss) (hE : TreeErrs w) :
    Calls Tryz.prog 57 #[.agg #[.slice oa ss.length cap]] w fun e w' => ∃ (T : ByteArray) (ok : Bool), e = .returned (.tuple #[.string T, .bool ok]) ∧ ownR ss T ok ∧ Below w.heap.size w w' := by
  have hb0 := (Below.refl w.heap.size w).alloc (Nat.le_refl _) (.cells #[.slice oa ss.length cap] 28)
  have C := Lib.hid (hF.tree oa cap _ (hc.below hb0 (Nat.le_refl _)) (hE.below hb0 hE.size))
  have HB0 := Lib.hid hb0
  clear hF hc hE hb0
  go_enter Tryz.func57, Tryz.ntmps57
  go_wp2_with fail
  refine C.out.mono ?_
  rintro e w1 (⟨hv, ⟨tp, p, rfl⟩, hb⟩ | ⟨hv, T, M1, M2, v, ds, rfl, hb, hT⟩)
  · have HN := Lib.hid (And.intro hv (HB0.out.trans (hb.mono HB0.out.size)))
    clear hv hb
    go_wp2
    go_ret2
    exact ⟨_, _, rfl, .inl ⟨HN.out.1, rfl, rfl⟩, HN.out.2⟩
  · have HN := Lib.hid (And.intro hv (HB0.out.trans (hb.mono HB0.out.size)))
    have C2 := Lib.hid (treeOwn_any hv hT)
    clear hv hb hT
    go_wp2_with fail
    refine C2.out.mono ?_
    rintro e w2 ⟨rfl, hb2⟩
    have HB2 := Lib.hid (HN.out.2.trans (hb2.mono HN.out.2.size))
    clear hb2
    go_wp2
    go_ret2
    exact ⟨_, _, rfl, .inr ⟨HN.out.1, rfl, rfl⟩, HB2.out⟩
theorem strI_next {W : World} {I k : Nat} {S : List UInt8} {b : UInt8} (h : W.heap[I]? = some (.stringIter (bT S) k)) (hk : S[k]? = some b) (hb : b.toNat < 128) (ty : TypeId) :
    (Instr.next (.pointer (some ⟨I, 0, none⟩)) true ty).run Tryz.prog W = .ok (.tuple #[.bool true, .int .i64 (k : Int), .int .i32 (b.toNat : Int)]) (W.iterAt I (bT S) (k + 1)) := by
  have h1 : k < (bT S).size := by rw [bT_size]; exact (List.getElem?_eq_some_iff.1 hk).1
  have h2 : (bT S)[k]'h1 = b := by
    obtain ⟨h3, h4⟩ := List.getElem?_eq_some_iff.1 hk
    rw [← h4]
    show (S.toArray)[k]'(by simpa using h3) = S[k]
    simp
  rw [Lib.run_next_ascii_at W I (bT S) k ty h h1 (by rw [h2]; exact hb), h2]
theorem strI_end {W : World} {I k : Nat} {S : List UInt8} (h : W.heap[I]? = some (.stringIter (bT S) k)) (hk : ¬ k < S.length) (ty : TypeId) :
    (Instr.next (.pointer (some ⟨I, 0, none⟩)) true ty).run Tryz.prog W = .ok (.tuple #[.bool false]) W :=
  Lib.run_next_end_at W I (bT S) k ty h (by rw [bT_size]; exact hk)
theorem rune_wf (b : UInt8) : (Lit.int .i32 (b.toNat : Int)).wf = true := by
  have h := b.toNat_lt
  have h1 : IntKind.i32.min = -2147483648 := by decide
  have h2 : IntKind.i32.max = 2147483647 := by decide
  show (decide (IntKind.i32.min ≤ (b.toNat : Int)) && decide ((b.toNat : Int) ≤ IntKind.i32.max)) = true
  rw [h1, h2]
  simp
  omega
/-- What holds at the head of a round of CountNames. -/
structure CntAt (w wr : World) (M I k : Nat) (S : List UInt8) : Prop where
  below : Below w.heap.size w wr
  iter : wr.heap[I]? = some (.stringIter (bT S) k)
  map : ∃ (D : DataW Unit) (n : Nat), n ≤ k ∧ wr.ownsMap Tryz.prog 21 (plainElem Tryz.prog 4) M n D ∧ (∀ b : UInt8, Maps.has D (.int .i32 (b.toNat : Int)) = true ↔ b ∈ S.take k) ∧ Maps.size D = cntL (S.take k)
theorem runeLaw : Maps.Keyed Tryz.prog 21 := int_keyed Tryz.underlying21
theorem CntAt.pos {w wr : World} {M I k : Nat} {S : List UInt8} (h : CntAt w wr M I k S) : wr.iterPos I = k := by unfold World.iterPos; rw [h.iter]
theorem CntAt.put {w wr : World} {M I k : Nat} {S : List UInt8} {b : UInt8} (h : CntAt w wr M I k S) (hk : S[k]? = some b) (h1 : 97 ≤ b.toNat) (h2 : b.toNat ≤ 122) (hM : w.heap.size ≤ M) (hI : w.heap.size ≤ I) (hMI : M ≠ I) (hk9 : k ≤ 1000) :
    ∃ w', (Instr.mapUpdate 99 (.map (some M)) (.int .i32 (b.toNat : Int)) (.bool true)).run Tryz.prog (wr.iterAt I (bT S) (k + 1)) = .ok () w' ∧ CntAt w w' M I (k + 1) S := by
  obtain ⟨D, n, hn, hown, hhas, hsz⟩ := h.map
  have hown2 : (wr.iterAt I (bT S) (k + 1)).ownsMap Tryz.prog 21 (plainElem Tryz.prog 4) M n D := ownsMap_same hown (Lib.iterAt_other wr I M (bT S) (k + 1) hMI)
  have hkey : keyOf Tryz.prog 21 (.int .i32 (b.toNat : Int)) = some (.int .i32 (b.toNat : Int)) := keyOf_int_mk Tryz.underlying21 (rune_wf b)
  obtain ⟨w', hrun, hown', hg⟩ := hown2.update (t := 99) (e := 4) runeLaw Tryz.underlying99 (by unfold maxLen; omega) hkey (plainElem_bool (H := Unit) Tryz.underlying4 true)
  refine ⟨w', hrun, ⟨?_, ?_, D.put (.int .i32 (b.toNat : Int)) (.lit (.bool true)), n + 1, by omega, hown', fun c => ?_, ?_⟩⟩
  · exact (Lib.below_iterAt h.below hI _ _).grown hg (Lib.below_iterAt h.below hI (bT S) (k + 1)).size (fun r e => by cases e; exact hM)
  · exact (hg.block I (Array.getElem?_eq_some_iff.1 (Lib.iterAt_heap wr _ _ _ _ h.iter)).1 (fun e => hMI (by cases e; rfl))).trans (Lib.iterAt_heap wr _ _ _ _ h.iter)
  · have ht : S.take (k + 1) = S.take k ++ [b] := by rw [List.take_add_one, hk]; rfl
    rw [ht]
    by_cases hc : c = b
    · subst hc
      rw [Maps.has_put_same hown.isMap (show WideAt.IsKeyLit (Lit.int .i32 _) from trivial)]
      simp
    · have hne : (Lit.int .i32 (c.toNat : Int)) ≠ .int .i32 (b.toNat : Int) := fun e => by
        injection e with _ e2
        exact hc (UInt8.toNat_inj.1 (by omega))
      rw [Maps.has_put_other hne, hhas]
      simp [hc]
  · have ht : S.take (k + 1) = S.take k ++ [b] := by rw [List.take_add_one, hk]; rfl
    rw [ht, cntL_snoc h1 h2, Maps.size_put (hown.tidy runeLaw), hsz]
    by_cases hb : b ∈ S.take k
    · rw [if_pos ((hhas b).2 hb), if_pos hb]
    · rw [if_neg (fun e => hb ((hhas b).1 e)), if_neg hb]
set_option maxRecDepth 100000 in
set_option maxHeartbeats 4000000 in
theorem countDiff_any (S : List UInt8) (hS : ∀ b ∈ S, 97 ≤ b.toNat ∧ b.toNat ≤ 122) (hsl : S.length ≤ 30) (w : World) :
    Calls Tryz.prog 33 #[.string (bT S)] w fun e w' => e = .returned (.int .i64 (cntL S : Int)) ∧ Below w.heap.size w w' := by
  have hmm := @run_makeMap Tryz.prog
  have HSB := Lib.hid hS
  have HC0 : Hid (CntAt w ((w.alloc (.map #[] 0)).iter (bT S) 0) w.heap.size (w.heap.size + 1) 0 S) := Lib.hid
    ⟨((Below.refl w.heap.size w).alloc (Nat.le_refl _) (.map #[] 0)).alloc (by simp) (.stringIter (bT S) 0), by have := World.iter_heap (w.alloc (.map #[] 0)) (bT S) 0; rw [World.size_alloc] at this; exact this,
     .map [], 0, Nat.le_refl _, (World.ownsMap_made (H := Unit) w Tryz.prog 21 (plainElem Tryz.prog 4)).alloc _, fun b => by rw [has_nil]; simp, by rw [List.take_zero, cntL_nil]; rfl⟩
  clear hS
  go_enter Tryz.func33, Tryz.ntmps33
  go_wp2
  go_loopw [9] (fun _ wr => ∃ k : Nat, k ≤ S.length ∧ Hid (CntAt w wr w.heap.size (w.heap.size + 1) k S)) (fun _ wr => S.length - wr.iterPos (w.heap.size + 1))
  case atStart => exact ⟨0, Nat.zero_le _, HC0⟩
  case round =>
    obtain ⟨k, hk, HW⟩ := hrel
    by_cases hlt : k < S.length
    · obtain ⟨b, hbk⟩ : ∃ b, S[k]? = some b := ⟨_, List.getElem?_eq_getElem hlt⟩
      have hbb := HSB.out b (List.mem_of_getElem? hbk)
      have hnx := strI_next HW.out.iter hbk (by omega)
      obtain ⟨w', hrun, hc'⟩ := HW.out.put hbk hbb.1 hbb.2 (Nat.le_refl _) (by omega) (by omega) (by omega)
      have HC' := Lib.hid hc'
      clear hc' hbk hbb
      go_wp2
      go_roundw
      case rel => exact ⟨k + 1, by omega, HC'⟩
      case measure => rw [HC'.out.pos, HW.out.pos]; omega
    · obtain rfl : k = S.length := by omega
      have hnx := strI_end HW.out.iter hlt
      obtain ⟨D, n, hn, hown, hhas, hsz⟩ := HW.out.map
      have hlen := fun ty => hown.len (t := 99) (e := 4) Tryz.underlying99 ty
      rw [List.take_length] at hsz
      have HZ := Lib.hid hsz
      have HBE := Lib.hid HW.out.below
      clear hown hhas hsz
      go_wp2
      go_ret
      exact ⟨by rw [← HZ.out]; rfl, HBE.out⟩
set_option maxRecDepth 100000 in
theorem implCount_any (ss : List Sc) (hF : Fair ss) (oa : Option Addr) (cap : Nat) (w : World) (hc : HoldsScopes w oa ss) (hE : TreeErrs w) :
    Calls Tryz.prog 32 #[.agg #[.slice oa ss.length cap]] w fun e w' => ∃ n : Int, e = .returned (.int .i64 n) ∧ cntR ss n ∧ Below w.heap.size w w' := by
  have hb0 := (Below.refl w.heap.size w).alloc (Nat.le_refl _) (.cells #[.slice oa ss.length cap] 28)
  have C := Lib.hid (implOwnNames_any ss hF oa cap _ (hc.below hb0 (Nat.le_refl _)) (hE.below hb0 hE.size))
  have HB0 := Lib.hid hb0
  have g0 := (Row.new w [.slice oa ss.length cap] 28).cell (i := 0) (by rfl)
  clear hF hc hE hb0
  go_enter Tryz.func32, Tryz.ntmps32
  go_wp2_with fail
  refine C.out.mono ?_
  rintro e w1 ⟨T, ok, rfl, hv, hb⟩
  have HB := Lib.hid (HB0.out.trans (hb.mono HB0.out.size))
  clear hb g0
  rcases hv with ⟨hv, rfl, rfl⟩ | ⟨hv, rfl, rfl⟩
  · have HN := Lib.hid hv
    clear hv
    go_wp2
    go_ret
    exact ⟨_, rfl, .inl ⟨HN.out, rfl⟩, HB.out⟩
  · have HV := Lib.hid hv
    have C2 := Lib.hid (countDiff_any (ownT ss) (ownS_bytes hv fun _ h => h) (own_small hv) w1)
    clear hv
    go_wp2_with fail
    refine C2.out.mono ?_
    rintro e w2 ⟨rfl, hb2⟩
    have HB2 := Lib.hid (HB.out.trans (hb2.mono HB.out.size))
    clear hb2
    go_wp2
    go_ret
    exact ⟨_, rfl, .inr ⟨HV.out, rfl⟩, HB2.out⟩
end Go.Proofs.YtgehpaojbnpbcaaGreatDoor
