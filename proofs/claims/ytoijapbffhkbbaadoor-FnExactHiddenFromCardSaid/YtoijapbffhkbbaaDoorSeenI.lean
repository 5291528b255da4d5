/-
  The walks of impl's SeenFrom and HiddenFrom. Conditions: the argument's memory holds the graph; the package-level errors hold errors.
-/
import Derived.Test.YtoijapbffhkbbaaDoorPSet
import Derived.Test.YtoijapbffhkbbaaDoorSees
import Derived.Test.YtoijapbffhkbbaaDoorWImplPls
namespace Go.Proofs.YtoijapbffhkbbaaDoor
open Go Go.RowKit Go.Maps
theorem name_bytes {a b : ByteArray} (h : (a.toList == b.toList) = true) : a = b := by
  rw [beq_iff_eq, ByteArray.toList_eq, ByteArray.toList_eq] at h
  exact ByteArray.ext (Array.ext' h)
theorem name_letter {nm : ByteArray} (h : nameB nm = true) : ∃ k, k < 26 ∧ nm = letterB k := by
  unfold nameB at h
  split at h
  · rename_i b hd
    simp only [inB, Bool.and_eq_true, decide_eq_true_eq] at h
    refine ⟨b.toNat - 97, by omega, ?_⟩
    apply ByteArray.ext
    apply Array.ext'
    rw [hd]
    show [b] = [UInt8.ofNat (97 + (b.toNat - 97))]
    rw [show 97 + (b.toNat - 97) = b.toNat by omega, UInt8.ofNat_toNat]
  · cases h
theorem own_decl {ss : List Sc} {s : Nat} {nm : ByteArray} {p : Int × Int} (h : p ∈ ownP ss s nm) : ∃ x, itemAtP ss p.1 p.2 = some x ∧ x.kind = 1 ∧ x.name = nm := by
  obtain ⟨c, j, x, hc, hx, ho, rfl⟩ := mem_ownP h
  unfold isOwn at ho
  simp only [Bool.and_eq_true] at ho
  exact ⟨x, by rw [itemAtP_nat hc]; exact hx, by simpa using ho.1, name_bytes ho.2⟩
theorem look_decl {ss : List Sc} {imps : Nat → List Nat} {nm : ByteArray} : ∀ {l : List Nat}, ∀ p ∈ (lookF ss imps nm l).places, ∃ x, itemAtP ss p.1 p.2 = some x ∧ x.kind = 1 ∧ x.name = nm
  | [], p, hp => by simp [lookF] at hp
  | m :: r, p, hp => by
    unfold lookF at hp
    split at hp
    · split at hp
      · exact look_decl p hp
      · have h : p ∈ fromP ss (imps m) nm := hp
        unfold fromP at h
        obtain ⟨k, _, hk⟩ := List.mem_flatMap.1 h
        exact own_decl hk
    · exact own_decl hp
theorem seenUp_iff (ss : List Sc) (s q : Nat) : ∀ n : Nat, seenUp ss s n q = true ↔ ∃ k, k < n ∧ inPl (lookP ss s (letterB k)).places q = true
  | 0 => by simp [seenUp]
  | n + 1 => by
    show (seenUp ss s n q || inPl (lookP ss s (letterB n)).places q) = true ↔ _
    rw [Bool.or_eq_true, seenUp_iff ss s q n]
    constructor
    · rintro (⟨k, hk, h⟩ | h)
      · exact ⟨k, by omega, h⟩
      · exact ⟨n, by omega, h⟩
    · rintro ⟨k, hk, h⟩
      by_cases e : k = n
      · exact .inr (e ▸ h)
      · exact .inl ⟨k, by omega, h⟩
theorem placed_small {ss : List Sc} (hv : Valid ss) {i j : Nat} {x : It} (hq : (i, j, x) ∈ placed 0 ss) : i < 6 ∧ j < 5 := by
  obtain ⟨c, hc, hx⟩ := placed_at hq
  dsimp only at hc hx
  have h1 := (List.getElem?_eq_some_iff.1 hc).1
  have h2 := (List.getElem?_eq_some_iff.1 hx).1
  have h3 := hv.count.2
  have h4 := hv.five c (List.mem_of_getElem? hc)
  omega
/-- The set tells of each item whether it is a declaration that is found by its name. -/
theorem seen_at {ss : List Sc} (hv : Valid ss) (s : Nat) {i j : Nat} {x : It} (hq : (i, j, x) ∈ placed 0 ss) : seenUp ss s 26 (i * 5 + j) = seesB ss s (i, j, x) := by
  have hsm := placed_small hv hq
  rw [Bool.eq_iff_iff, seenUp_iff]
  unfold seesB foundB
  simp only [Bool.and_eq_true, beq_iff_eq, decide_eq_true_eq]
  constructor
  · rintro ⟨k, hk, h⟩
    unfold inPl at h
    obtain ⟨p, hp, he⟩ := List.any_eq_true.1 h
    rw [beq_iff_eq] at he
    obtain ⟨i', j', rfl, hi', hj'⟩ := small_places hv look_isPlace p hp
    dsimp only at he
    obtain rfl : i' = i := by omega
    obtain rfl : j' = j := by omega
    obtain ⟨y, hy, hk1, hn⟩ := look_decl _ hp
    have h2 := placed_item hq
    dsimp only at h2 hy
    rw [h2] at hy
    cases hy
    refine ⟨hk1, ?_⟩
    rw [hn]
    exact hp
  · rintro ⟨hk1, hf⟩
    have h1 := item_of hv hq
    unfold itemB at h1
    simp only [Bool.and_eq_true] at h1
    obtain ⟨k, hk, hn⟩ := name_letter h1.1.1
    refine ⟨k, hk, ?_⟩
    unfold inPl
    refine List.any_eq_true.2 ⟨_, by rw [← hn]; exact hf, ?_⟩
    unfold plOf
    simp
end Go.Proofs.YtoijapbffhkbbaaDoor
namespace Go.Proofs.YtoijapbffhkbbaaDoor
open Go Go.RowKit Go.Maps
attribute [local go_sem] Oper.semAt_some
theorem pset_new (W : World) (f : Nat → Bool) : Row ((W.alloc (.cells #[.bool false, .bool false, .bool false, .bool false, .bool false, .bool false, .bool false, .bool false, .bool false, .bool false, .bool false, .bool false, .bool false, .bool false, .bool false, .bool false, .bool false, .bool false, .bool false, .bool false, .bool false, .bool false, .bool false, .bool false, .bool false, .bool false, .bool false, .bool false, .bool false, .bool false] 94)).setRow W.heap.size (psetL f).toArray) W.heap.size 94 (psetL f) :=
  setRow_heap _ _ _ _ _ _ (show (W.alloc (.cells #[.bool false, .bool false, .bool false, .bool false, .bool false, .bool false, .bool false, .bool false, .bool false, .bool false, .bool false, .bool false, .bool false, .bool false, .bool false, .bool false, .bool false, .bool false, .bool false, .bool false, .bool false, .bool false, .bool false, .bool false, .bool false, .bool false, .bool false, .bool false, .bool false, .bool false] 94)).heap[W.heap.size]? = some (.cells #[.bool false, .bool false, .bool false, .bool false, .bool false, .bool false, .bool false, .bool false, .bool false, .bool false, .bool false, .bool false, .bool false, .bool false, .bool false, .bool false, .bool false, .bool false, .bool false, .bool false, .bool false, .bool false, .bool false, .bool false, .bool false, .bool false, .bool false, .bool false, .bool false, .bool false] 94 (0, 0)) from Row.new W [.bool false, .bool false, .bool false, .bool false, .bool false, .bool false, .bool false, .bool false, .bool false, .bool false, .bool false, .bool false, .bool false, .bool false, .bool false, .bool false, .bool false, .bool false, .bool false, .bool false, .bool false, .bool false, .bool false, .bool false, .bool false, .bool false, .bool false, .bool false, .bool false, .bool false] 94)
def elF {ss : List Sc} (f : Nat × Nat × It → Bool) (pre : List (El ss)) : List (Int × Int) := filtL f (pre.map Subtype.val)
set_option maxRecDepth 100000 in
set_option maxHeartbeats 8000000 in
theorem implSeenFrom_any (ss : List Sc) (hF : Fair ss) (oa : Option Addr) (cap : Nat) (n : Int) (w : World) (hc : HoldsScopes w oa ss) (hE : NodeErrs w) :
    Calls Tryd.prog 21 #[.agg #[.slice oa ss.length cap], .int .i64 n] w (PlGot (HasScope ss n) (filtL (seesB ss n.toNat) (placed 0 ss)) w) := by
  have hb0 := (Below.refl w.heap.size w).alloc (Nat.le_refl _) (.cells #[.slice oa ss.length cap] 30)
  have C := Lib.hid (nodeOf_any ss hF oa cap n _ (hc.below hb0 (Nat.le_refl _)) (hE.at hb0))
  have HB0 := Lib.hid hb0
  clear hF hc hE hb0
  refine (callsIn_wide (n := 6)).1 ?_
  refine callsIn_of_wp_marks Tryd.func21 rfl trivial ?_ rfl
  simp only [Tryd.ntmps21, List.size_toArray, List.length_cons, List.length_nil, Nat.reduceAdd, Nat.reduceSub, Array.replicate_succ, Array.replicate_zero, List.push_toArray, List.append_toArray, List.nil_append, List.cons_append]
  refine wpIn_wide.2 ?_
  go_wp2_with fail
  refine C.out.mono ?_
  rintro e w1 (⟨hv, ⟨tp, p, rfl⟩, hb⟩ | ⟨hv, s, d, T, M1, M2, v, ds, rfl, hs, hd, rfl, hb, hT⟩)
  · have HV := Lib.hid hv
    have HB := Lib.hid (HB0.out.trans (hb.mono HB0.out.size))
    clear hv hb
    go_wp2
    exact ⟨_, results_tmp2 rfl _ _ _, .inl ⟨HV.out, rfl, HB.out⟩⟩
  · have HV : Hid (HasScope ss (s : Int)) := Lib.hid ⟨hv, by omega, by omega⟩
    have HB := Lib.hid (HB0.out.trans (hb.mono HB0.out.size))
    obtain ⟨B, HT⟩ : ∃ B, Hid (TreeIs w1 B T M1 M2 v ds ss) := ⟨_, Lib.hid hT⟩
    have HD := Lib.hid hd
    clear hv hb hT hd hs
    go_wp2_with fail
    refine (lookupIn_any T _).mono ?_
    rintro e w2 ⟨rfl, hR, hM, hb2⟩
    have HB2 := Lib.hid (HB.out.trans (hb2.mono HB.out.size))
    have HLW := Lib.hid (LookW.mk (HT.out.below hb2) hR (memo_nil hM) (by obtain ⟨_, h⟩ := HT.out.items; have := h.lt; omega) (by obtain ⟨_, h⟩ := HT.out.mods; have := h.lt; omega))
    clear hR hM hb2
    go_wp2_with fail
    refine (seen_any HV.out.1 HLW.out HD.out).mono ?_
    rintro e w3 ⟨rfl, hl3⟩
    have HB3 := Lib.hid (HB2.out.trans (hl3.turns.below HB.out.size HB.out.size HB2.out.size))
    have hz : (w3.alloc (.cells #[.bool false, .bool false, .bool false, .bool false, .bool false, .bool false, .bool false, .bool false, .bool false, .bool false, .bool false, .bool false, .bool false, .bool false, .bool false, .bool false, .bool false, .bool false, .bool false, .bool false, .bool false, .bool false, .bool false, .bool false, .bool false, .bool false, .bool false, .bool false, .bool false, .bool false] 94)).heap[w3.heap.size]? = some (.cells #[.bool false, .bool false, .bool false, .bool false, .bool false, .bool false, .bool false, .bool false, .bool false, .bool false, .bool false, .bool false, .bool false, .bool false, .bool false, .bool false, .bool false, .bool false, .bool false, .bool false, .bool false, .bool false, .bool false, .bool false, .bool false, .bool false, .bool false, .bool false, .bool false, .bool false] 94 (0, 0)) := Row.new w3 [.bool false, .bool false, .bool false, .bool false, .bool false, .bool false, .bool false, .bool false, .bool false, .bool false, .bool false, .bool false, .bool false, .bool false, .bool false, .bool false, .bool false, .bool false, .bool false, .bool false, .bool false, .bool false, .bool false, .bool false, .bool false, .bool false, .bool false, .bool false, .bool false, .bool false] 94
    have hbS : Below w3.heap.size w3 ((w3.alloc (.cells #[.bool false, .bool false, .bool false, .bool false, .bool false, .bool false, .bool false, .bool false, .bool false, .bool false, .bool false, .bool false, .bool false, .bool false, .bool false, .bool false, .bool false, .bool false, .bool false, .bool false, .bool false, .bool false, .bool false, .bool false, .bool false, .bool false, .bool false, .bool false, .bool false, .bool false] 94)).setRow w3.heap.size (psetL (seenUp ss s 26)).toArray) := ((Below.refl _ _).alloc (Nat.le_refl _) _).trans (below_setRow _ _ _ (Nat.le_refl _))
    have HT4 := Lib.hid (hl3.look.tree.below hbS)
    have HB4 := Lib.hid (HB3.out.trans (hbS.mono HB3.out.size))
    have HS4 := Lib.hid (pset_new w3 (seenUp ss s 26))
    have HLT : Hid (w3.heap.size < ((w3.alloc (.cells #[.bool false, .bool false, .bool false, .bool false, .bool false, .bool false, .bool false, .bool false, .bool false, .bool false, .bool false, .bool false, .bool false, .bool false, .bool false, .bool false, .bool false, .bool false, .bool false, .bool false, .bool false, .bool false, .bool false, .bool false, .bool false, .bool false, .bool false, .bool false, .bool false, .bool false] 94)).setRow w3.heap.size (psetL (seenUp ss s 26)).toArray).heap.size) := Lib.hid HS4.out.lt
    clear hl3 hbS
    go_upto_region 5 with (refine wpList_store_row rfl 94 _ _ rfl w3.heap.size (psetL (seenUp ss s 26)).toArray rfl rfl 94 _ hz (psetL_info _) (by simp [psetL_length]) (psetL_one _) ?_)
    clear hz
    obtain ⟨g, hg⟩ : ∃ g, w3.heap.size = g := ⟨_, rfl⟩
    generalize ((w3.alloc (.cells #[.bool false, .bool false, .bool false, .bool false, .bool false, .bool false, .bool false, .bool false, .bool false, .bool false, .bool false, .bool false, .bool false, .bool false, .bool false, .bool false, .bool false, .bool false, .bool false, .bool false, .bool false, .bool false, .bool false, .bool false, .bool false, .bool false, .bool false, .bool false, .bool false, .bool false] 94)).setRow w3.heap.size (psetL (seenUp ss s 26)).toArray) = w4 at *
    rw [hg] at *
    go_upto_region 6 with (fail)
    go_wp2_with fail
    refine (all_any _ _).mono ?_
    rintro e w5 ⟨rfl, rfl⟩
    go_wp2
    refine (wpIn_wide (n := 6)).1 ?_
    gi_wp2
    have hBx : Below w4.heap.size w4 ((w4.alloc (.cells #[.slice none 0 0] 34)).alloc (.cells #[.pointer (some ⟨T, 0, none⟩)] 86)) := ((Below.refl _ _).alloc (Nat.le_refl _) _).alloc (by simp) _
    have bL := (Boxed.new w4 34 (.slice none 0 0)).alloc (.cells #[.pointer (some ⟨T, 0, none⟩)] 86)
    have bN := Boxed.new (w4.alloc (.cells #[.slice none 0 0] 34)) 86 (.pointer (some ⟨T, 0, none⟩))
    rw [World.size_alloc] at bN
    have hsm := HV.out.1.small
    refine wpIn_rangeFunc_ownH rfl (by omega) (gf := 132) (lb := #[.pointer (some ⟨w4.heap.size + 1, 0, none⟩)]) rfl trivial (enters_of Tryd.func132 (by kernel_rfl) rfl)
      (all_stops 5 (by omega) (w4.heap.size + 1) _ T M1 M2 v ds ss w4 _ HT4.out.tree HT4.out.hold (HT4.out.ne HV.out.1) hsm.len hsm.items (.of_below hBx) bN.cell) CellsKept.trans (fun W l o o' _ h1 h2 h3 => cellsKept_b (w := w4) W l o o' (by simp at *; omega) h1 h2 h3) (Below.refl _ _) (fun _ => rfl)
      (fun pre W => (∃ u, Boxed W w4.heap.size 34 u ∧ W.ownsRow w4.heap.size 43 2 u (elF (seesB ss s) pre).length (placeCells (elF (seesB ss s) pre)) ∧ True) ∧ (CellsKept w4.heap.size w4 W ∧ Below w4.heap.size w4 W))
      (fun _ _ _ => False)
      (OwnFrom.and (Own.from (holdsRow_own w4.heap.size w4.heap.size 34 43 2 (fun pre : List (El ss) => (elF (seesB ss s) pre).length) (fun pre => placeCells (elF (seesB ss s) pre)) (fun _ _ => True)) _) (OwnFrom.and (cellsKept_own w4) (ownFrom_below (Nat.le_refl _) (by simp; omega))))
      (fun _ _ _ _ _ hs _ _ => hs)
      ⟨⟨_, bL, World.ownsRow_nil _ _ _ _, trivial⟩, .of_below hBx, hBx⟩
      (fun x a' W => ∃ Bp, Row W Bp 43 [.int .i64 (x.1.1 : Int), .int .i64 (x.1.2.1 : Int)] ∧ w4.heap.size < Bp ∧
        a' = { tmps := #[.agg #[.slice oa ss.length cap], .int .i64 (s : Int), .pointer (some ⟨w.heap.size, 0, none⟩), undef, .slice none 0 0, .bool false, .pointer (some ⟨T, 0, none⟩), .pointer (some ⟨d.blk, 0, none⟩), .nilIface, .pointer (some ⟨g, 0, none⟩), .pointer (some ⟨w4.heap.size, 0, none⟩), .pointer (some ⟨Bp, 0, none⟩), .tuple #[.pointer (some ⟨T, 0, none⟩), .pointer (some ⟨d.blk, 0, none⟩), .nilIface], .agg #[.slice oa ss.length cap], .int .i64 (s : Int), .tuple #[.pointer (some ⟨T, 0, none⟩), .pointer (some ⟨d.blk, 0, none⟩), .nilIface], .pointer (some ⟨T, 0, none⟩), .pointer (some ⟨d.blk, 0, none⟩), .nilIface, .nilIface, .bool false, .pointer (some ⟨T, 0, none⟩), .pointer (some ⟨w1.heap.size + 1, 0, none⟩), .pointer (some ⟨d.blk, 0, none⟩), .agg (psetL (seenUp ss s 26)).toArray, .pointer (some ⟨T, 0, none⟩), .func (.func 132) #[] #[.pointer (some ⟨w4.heap.size + 1, 0, none⟩)], .agg #[.int .i64 (x.1.1 : Int), .int .i64 (x.1.2.1 : Int)], .agg #[.int .i64 x.1.2.2.kind, .string x.1.2.2.name, .int .i64 x.1.2.2.scope], undef, undef, undef, undef, undef, undef, undef], defers := [] })
      (fun x a' _ X Y row hs hg hr => by obtain ⟨Bp, h1, h3, h5⟩ := hs; exact ⟨Bp, h1.kept_cells hg (fun r e => (hr r e).2), h3, h5⟩)
      ?assign ?body ?done ?stop
    case assign =>
      rintro l pre x W K hi hK
      dsimp only [elArgs]
      gi_wp2
      have ha : Below W.heap.size W (W.alloc (.cells #[.int .i64 (x.1.1 : Int), .int .i64 (x.1.2.1 : Int)] 43)) := (Below.refl _ _).alloc (Nat.le_refl _) _
      obtain ⟨⟨u, hB, hrow, -⟩, hck, hbw⟩ := hi
      have hlt := hB.lt
      refine hK _ _ ((KeepsOthers.alloc _ _).from _) ((CellsKept.of_below ha).mono hbw.size) ⟨⟨u, hB.alloc _, hrow.alloc _, trivial⟩, hck.trans ((CellsKept.of_below ha).mono hbw.size), hbw.trans (ha.mono hbw.size)⟩ ⟨W.heap.size, ?_, hlt, rfl⟩
      exact Row.new W [.int .i64 (x.1.1 : Int), .int .i64 (x.1.2.1 : Int)] 43
    case body =>
      rintro l pre x a' W hl _ ⟨⟨u, hB, hrow, -⟩, hck, hbw⟩ ⟨Bp, hp, hlp, rfl⟩ hlen
      obtain ⟨⟨i, j, it⟩, hmem⟩ := x
      have HQ : Hid (elF (seesB ss s) (pre ++ [(⟨(i, j, it), hmem⟩ : El ss)]) = elF (seesB ss s) pre ++ if seesB ss s (i, j, it) = true then [((i : Int), (j : Int))] else []) := Lib.hid (by unfold elF; rw [List.map_append]; exact filtL_snoc _ _ _)
      dsimp only at hp ⊢
      have hlen' : (elF (seesB ss s) pre).length < 1000000 := by
        have h1 := filtL_length (seesB ss s) (pre.map Subtype.val)
        have h2 := placed_bound 0 ss 6 5 HV.out.1.count.2 HV.out.1.five
        rw [List.length_map] at h1
        unfold elF
        omega
      have p0 := hp.cell (i := 0) (by rfl)
      have p1 := hp.cell (i := 1) (by rfl)
      have hsm2 := placed_small HV.out.1 hmem
      have HSA := Lib.hid (seen_at HV.out.1 s hmem)
      have C2 := Lib.hid (CallsIn.inRound l ((callsIn_wide (n := 3)).2 (phas_any (f := seenUp ss s 26) (show Row W g 94 (psetL (seenUp ss s 26)) from hck.block g _ _ _ HS4.out.lt HS4.out) hsm2.1 hsm2.2)))
      have HI := Lib.hid (And.intro hck hbw)
      have HBR := Lib.hid (And.intro hB hrow)
      have HPR := Lib.hid hp
      clear hB hrow hck hbw hp hsm2
      gi_wp2_with fail
      refine ⟨trivial, ?_⟩
      gi_at_call 79
      refine C2.out.mono ?_
      rintro e w6 ⟨rfl, hb6⟩
      have hB6 : Boxed w6 w4.heap.size 34 u := (hb6.block _ HBR.out.1.lt).trans HBR.out.1
      have hrow6 := ownsRow_below HBR.out.2 hb6
      have hp6 := HPR.out.below hb6 HPR.out.lt
      have p60 := hp6.cell (i := 0) (by rfl)
      have p61 := hp6.cell (i := 1) (by rfl)
      have HKF := Lib.hid (keepsOthers_of_below hb6)
      have HBW6 := Lib.hid (HI.out.2.trans (hb6.mono HI.out.2.size))
      have HCK6 := Lib.hid (HI.out.1.trans ((CellsKept.of_below hb6).mono HI.out.2.size))
      have HCB6 := Lib.hid ((CellsKept.of_below hb6).mono HI.out.2.size)
      clear hb6 p0 p1
      rw [HSA.out]
      cases hsb : seesB ss s (i, j, it)
      · have HE : Hid (elF (seesB ss s) (pre ++ [(⟨(i, j, it), hmem⟩ : El ss)]) = elF (seesB ss s) pre) := Lib.hid (by rw [HQ.out, hsb]; simp)
        have HP := Lib.hid (And.intro hB6 hrow6)
        clear hB6 hrow6 hsb hp6 p60 p61
        gi_wp2
        refine ⟨HKF.out.from _, HCB6.out, ⟨u, HP.out.1, ?_, trivial⟩, HCK6.out, HBW6.out⟩
        rw [HE.out]
        exact HP.out.2
      · have HE : Hid (elF (seesB ss s) (pre ++ [(⟨(i, j, it), hmem⟩ : El ss)]) = elF (seesB ss s) pre ++ [((i : Int), (j : Int))]) := Lib.hid (by rw [HQ.out, hsb]; simp)
        obtain ⟨v', w7, hrun, hown', hgrow⟩ := append_place0 hrow6 (i : Int) (j : Int) hlen' HBW6.out.size 34
        have hown2 := hown'
        obtain ⟨g', cap', rfl⟩ := ownsRow_succ hown'
        simp [go_sem] at hrun
        obtain ⟨hv1, hv2, hr2, hk2, hb2⟩ := hB6.appended (by decide) hrow6 HBW6.out.size (Nat.le_refl _) hown2 hgrow
        have c0 := hB6.cell
        have c0' := (hB6.alloc (.cells #[.int .i64 (i : Int), .int .i64 (j : Int)] 43)).cell
        have c1 := hv1.cell
        have f1 := hv1.frozen
        have HP := Lib.hid (And.intro hv2 (And.intro hr2 (And.intro hk2 hb2)))
        clear hB6 hrow6 hown' hown2 hgrow hv1 hv2 hr2 hk2 hb2 hsb hp6
        gi_wp2
        refine ⟨(HKF.out.trans HP.out.2.2.1).from _, HCB6.out.trans (.of_below HP.out.2.2.2), ⟨_, HP.out.1, ?_, trivial⟩, HCK6.out.trans (.of_below HP.out.2.2.2), HBW6.out.trans HP.out.2.2.2⟩
        rw [HE.out, List.length_append, placeCells_snoc]
        exact HP.out.2.1
    case done =>
      rintro D xs W hD hS ⟨⟨u, hB, hrow, -⟩, hck, hbw⟩ hK
      have cB := hB.cell
      have HS2 : Hid (elF (seesB ss s) xs = filtL (seesB ss s) (placed 0 ss)) := Lib.hid (by unfold elF; rw [hS])
      clear hS
      go_wp2
      refine ⟨by simp, .inl ⟨_, _, rfl, run_takeDeferred hK, ?_⟩⟩
      have hrow2 := ownsRow_lower (ownsRow_putObj hrow (.deferred none) hK rfl) (show w.heap.size ≤ w4.heap.size from HB4.out.size)
      rw [HS2.out] at hrow2
      have hend : Below w.heap.size w (W.putObj D (.deferred none)) := HB4.out.trans ((hbw.mono HB4.out.size).trans (belowK_b (w := w) (Nat.le_refl _) W D _ _ (by have := HB4.out.size; simp at hD; omega) hK rfl rfl))
      exact ⟨_, results_tmp2 rfl _ _ _, .inr ⟨HV.out, u, rfl, by rw [Int.toNat_natCast]; exact hrow2, hend⟩⟩
    case stop =>
      rintro D c pre W _ _ h _
      exact h.elim
end Go.Proofs.YtoijapbffhkbbaaDoor
