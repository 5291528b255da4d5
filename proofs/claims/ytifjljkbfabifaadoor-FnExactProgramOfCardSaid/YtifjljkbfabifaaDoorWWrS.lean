/-
  The walks of the given l11Blocks and l11Write: the program of a scope, and its scopes in order. Condition: the argument's memory holds the graph. (genwrs.py writes this text.)
-/
import Derived.Test.YtifjljkbfabifaaDoorWSca
import Derived.Test.YtifjljkbfabifaaDoorJD
namespace Go.Proofs.YtifjljkbfabifaaDoor
open Go Go.RowKit Go.Maps
/-- Numbers appended to a row of numbers of one's own, as the operation runs it. -/
theorem append_nums {W : World} {base k : Nat} {v : Value} {xs : List Value} (hrow : W.ownsRow base 3 1 v k xs) {g off cap : Nat} {l : List Nat} (hcells : ∀ (j : Nat) (q : Nat), l[j]? = some q → W.cell? ⟨g, off + j, none⟩ = some (.int .i64 (q : Int))) (hk : k + l.length < 1000000) (hbase : base ≤ W.heap.size) (ty : TypeId) :
    ∃ v' w', (Builtin.append_ #[39, 39] ty #[v, .slice (some ⟨g, off, none⟩) l.length cap]).run Tryd.prog W = .ok v' w' ∧ w'.ownsRow base 3 1 v' (k + l.length) (xs ++ numVals l) ∧ W.grownBy w' v.ownBlock := by
  obtain ⟨i0, hi, hz0, hz1, hz2⟩ := info_parts infoInt
  have hc2 : ∀ (j : Nat) (q : Value), (numVals l)[j]? = some q → W.cell? ((⟨g, off, none⟩ : Addr).add j) = some q := by
    intro j q hq
    unfold numVals at hq
    rw [List.getElem?_map] at hq
    obtain ⟨x, hx, rfl⟩ := Option.map_eq_some_iff.1 hq
    rw [Addr.add_mid g off j]
    exact hcells j x hx
  obtain ⟨v', w', hrun, h2, h3, _, _⟩ := run_append_own_at (P := Tryd.prog) W base 39 ty 3 i0 (.int .i64 0) 1 8 Tryd.underlying39 hi hz0 hz1 hz2 rfl (by decide) v k xs hrow ⟨g, off, none⟩ l.length cap (numVals l) (by unfold numVals; simp) hc2
    (by
      intro q hq
      unfold numVals at hq
      obtain ⟨p, _, rfl⟩ := List.mem_map.1 hq
      rfl) (by unfold maxLen; omega) (by omega) hbase
  exact ⟨v', w', hrun, h2, h3⟩
theorem owns_single (W : World) {base : Nat} (hb : base ≤ W.heap.size) (s : Nat) : (W.alloc (.cells #[.int .i64 (s : Int)] 3)).ownsRow base 3 1 (.slice (some ⟨W.heap.size, 0, none⟩) 1 1) 1 (numVals [s]) :=
  ⟨by simp [numVals], .inr ⟨_, 1, _, rfl, hb, heap_alloc_new W _, Nat.le_refl _, by unfold maxLen; omega, by simp, by simp [numVals]⟩⟩
theorem numVals_append (a b : List Nat) : numVals (a ++ b) = numVals a ++ numVals b := by simp [numVals]
theorem ListAt.below {w w' : World} {B : Nat} {oa : Option Addr} {l : List Nat} (h : ListAt w B oa l) (hb : Below w.heap.size w w') : ListAt w' B oa l := fun i k hk => by
  obtain ⟨g, h1, h2, h3⟩ := h i k hk
  exact ⟨g, h1, h2, (hb.cell (p := ⟨g, i, none⟩) (World.block_lt_of_cell? _ _ h3)).trans h3⟩
/-- What the given writer answers for a scope. -/
def WrGot (ss : List Sc) (s : Nat) (w : World) (e : Ending) (w' : World) : Prop := ∃ T v, e = .returned (.tuple #[.string T, v]) ∧ T.data.toList = wrP ss s ∧ w'.ownsRow w.heap.size 3 1 v (orP ss s).length (numVals (orP ss s)) ∧ Below w.heap.size w w'
def WrC (ss : List Sc) (oa : Option Addr) (cap s : Nat) : Prop := ∀ w : World, HoldsScopes w oa ss → Calls Tryd.prog 70 #[.agg #[.slice oa ss.length cap], .int .i64 (s : Int)] w (WrGot ss s w)
theorem size_list (T : ByteArray) : T.size = T.data.toList.length := by show T.data.size = _; rw [Array.length_toList]
theorem wrBl_take_le (W : Nat → List UInt8) (bl : List Nat) (k : Nat) : (wrBl W (bl.take k)).length ≤ (wrBl W bl).length := by
  conv => rhs; rw [← List.take_append_drop k bl]
  unfold wrBl
  rw [List.flatMap_append, List.length_append]
  omega
theorem wrIt_take_le (W : Nat → List UInt8) (xs : List It) (k : Nat) : (wrIt W (xs.take k)).length ≤ (wrIt W xs).length := by
  conv => rhs; rw [← List.take_append_drop k xs]
  unfold wrIt
  rw [List.flatMap_append, List.length_append]
  omega
/-- The head of the loop over blocks. -/
structure BlAt (ss : List Sc) (oa : Option Addr) (cap : Nat) (w wr : World) (s : Nat) (bl : List Nat) (k : Nat) (T : ByteArray) (v : Value) : Prop where
  text : T.data.toList = wrBl (wrP ss) (bl.take k)
  row : wr.ownsRow w.heap.size 3 1 v (1 + ((bl.take k).flatMap (orP ss)).length) (numVals (s :: (bl.take k).flatMap (orP ss)))
  box : Row wr w.heap.size 30 [.slice oa ss.length cap]
  below : Below w.heap.size w wr
set_option maxRecDepth 100000 in
set_option maxHeartbeats 8000000 in
theorem l11Blocks_any (ss : List Sc) (oa : Option Addr) (cap s : Nat) (bl : List Nat) (hrec : ∀ k ∈ bl, WrC ss oa cap k) (hnem : ∀ k ∈ bl, ∃ n0, (orP ss k)[0]? = some n0) (items : ByteArray) (mo : List Nat) (h1 : items.size + (wrBl (wrP ss) bl).length ≤ 1000) (h2 : mo.length + (bl.flatMap (orP ss)).length ≤ 1000) (h3 : bl.length ≤ 100) (w : World) (hc : HoldsScopes w oa ss) (oo ob : Option Addr) (co cb : Nat) (ho : ListAt w 0 oo (s :: mo)) (hco : mo.length + 1 ≤ co) (hbk : ListAt w 0 ob bl) :
    Calls Tryd.prog 107 #[.agg #[.slice oa ss.length cap], .int .i64 (s : Int), .string items, .slice oo (mo.length + 1) co, .slice ob bl.length cb] w fun e w' => ∃ T v, e = .returned (.tuple #[.string T, v]) ∧ T.data.toList = wrBl (wrP ss) bl ++ items.data.toList ∧ w'.ownsRow w.heap.size 3 1 v (1 + (bl.flatMap (orP ss) ++ mo).length) (numVals (s :: (bl.flatMap (orP ss) ++ mo))) ∧ Below w.heap.size w w' := by
  have hbG := (Below.refl w.heap.size w).alloc (Nat.le_refl _) (.cells #[.slice oa ss.length cap] 30)
  have hb0 := hbG.alloc (by simp) (.cells #[.int .i64 (s : Int)] 3)
  have hro := owns_single (w.alloc (.cells #[.slice oa ss.length cap] 30)) (base := w.heap.size) (by simp) s
  rw [World.size_alloc] at hro
  have HP0 : Hid (BlAt ss oa cap w ((w.alloc (.cells #[.slice oa ss.length cap] 30)).alloc (.cells #[.int .i64 (s : Int)] 3)) s bl 0 ⟨#[]⟩ (.slice (some ⟨w.heap.size + 1, 0, none⟩) 1 1)) := Lib.hid {
    text := rfl
    row := hro
    box := (Row.new w [.slice oa ss.length cap] 30).alloc _
    below := hb0 }
  obtain ⟨go, rfl, -, -⟩ := ho 0 s rfl
  have HO : Hid (∀ j q : Nat, mo[j]? = some q → w.cell? ⟨go, 1 + j, none⟩ = some (.int .i64 (q : Int))) := Lib.hid (fun j q hq => by
    obtain ⟨g, h1, -, h3⟩ := ho (j + 1) q hq
    cases h1
    rw [Nat.add_comm 1 j]
    exact h3)
  have HBK := Lib.hid hbk
  have HREC := Lib.hid hrec
  have HNEM := Lib.hid hnem
  have HC := Lib.hid hc
  have H1 := Lib.hid h1
  have H2 := Lib.hid h2
  clear ho hbk hrec hnem hc h1 h2 hbG hb0 hro
  go_enter Tryd.func107, Tryd.ntmps107
  go_wp2
  go_loopw [12, 13, 22] (fun t v i wr => ∃ (k : Nat) (T : ByteArray), t = .string T ∧ i = .int .i64 k ∧ k ≤ bl.length ∧ Hid (BlAt ss oa cap w wr s bl k T v)) (fun _ _ i _ => bl.length - (intOf i).toNat)
  case atStart => exact ⟨0, _, rfl, rfl, Nat.zero_le _, HP0⟩
  case round =>
    obtain ⟨k, T, rfl, rfl, hk, HP⟩ := hrel
    by_cases hlt : k < bl.length
    · obtain ⟨c, hck⟩ : ∃ c, bl[k]? = some c := ⟨_, List.getElem?_eq_getElem hlt⟩
      obtain ⟨gb, rfl, -, hcell⟩ := HBK.out k c hck
      have a0 := (HP.out.below.cell (p := ⟨gb, k, none⟩) (World.block_lt_of_cell? _ _ hcell)).trans hcell
      have g0 := HP.out.box.cell (i := 0) (v := .slice oa ss.length cap) (by rfl)
      have CW := Lib.hid (HREC.out c (List.mem_of_getElem? hck) wr (HC.out.below HP.out.below (Nat.le_refl _)))
      have HWT := Lib.hid (wrBl_take (W := wrP ss) hck)
      have HOT : Hid ((bl.take (k + 1)).flatMap (orP ss) = (bl.take k).flatMap (orP ss) ++ orP ss c) := Lib.hid (by rw [List.take_add_one, hck, List.flatMap_append]; simp)
      have hl1 := wrBl_take_le (wrP ss) bl (k + 1)
      rw [HWT.out, List.length_append, List.length_cons, List.length_append, List.length_cons, List.length_nil] at hl1
      have hl2 := flat_take_le (f := orP ss) bl (k + 1)
      rw [HOT.out, List.length_append] at hl2
      have hTs : T.size = (wrBl (wrP ss) (bl.take k)).length := by rw [size_list, HP.out.text]
      have HLN := Lib.hid (And.intro hl1 (And.intro hl2 hTs))
      have hs1 : T.size + (wrP ss c).length + 2 ≤ 1000 := by have := H1.out; omega
      have HNE : Hid (∃ n0, (orP ss c)[0]? = some n0) := Lib.hid (HNEM.out c (List.mem_of_getElem? hck))
      have HOR : Hid (1 + ((bl.take k).flatMap (orP ss)).length + (orP ss c).length ≤ 2000) := Lib.hid (by have := H2.out; omega)
      clear hck hcell hl1 hl2 hTs
      go_wp2_with fail
      refine CW.out.mono ?_
      rintro e w2 ⟨T2, v2, rfl, ht2, hrow2, hb2⟩
      have HT2 := Lib.hid ht2
      have hT2s : T2.size = (wrP ss c).length := by rw [size_list, ht2]
      have z1 : ¬ 9223372036854775807 < T.size + 1 := by omega
      have z2 : ¬ 9223372036854775807 < T.size + 1 + T2.size := by omega
      have z3 : ¬ 9223372036854775807 < T.size + 1 + T2.size + 1 := by omega
      have HROW := Lib.hid (ownsRow_below HP.out.row hb2)
      have HBX := Lib.hid (HP.out.box.below hb2 HP.out.box.lt)
      have HBW := Lib.hid (HP.out.below.trans (hb2.mono HP.out.below.size))
      obtain ⟨ol2, cl2, rfl, hla2⟩ := listAt_of_owns hrow2
      have hne2 : ∃ g2, ol2 = some ⟨g2, 0, none⟩ ∧ ∀ (j q : Nat), (orP ss c)[j]? = some q → w2.cell? ⟨g2, 0 + j, none⟩ = some (.int .i64 (q : Int)) := by
        obtain ⟨n0, hn0⟩ := HNE.out
        obtain ⟨g2, h1, -, -⟩ := hla2 0 n0 hn0
        refine ⟨g2, h1, fun j q hq => ?_⟩
        obtain ⟨g3, h4, -, h5⟩ := hla2 j q hq
        rw [h1] at h4
        cases h4
        rw [Nat.zero_add]
        exact h5
      obtain ⟨g2, rfl, hc2⟩ := hne2
      obtain ⟨v', w3, hrun, hown', hgrow⟩ := append_nums (cap := cl2) HROW.out hc2 (by have := HOR.out; omega) HBW.out.size 39
      have HP4 : Hid (∀ T', T'.data.toList = wrBl (wrP ss) (bl.take (k + 1)) → BlAt ss oa cap w w3 s bl (k + 1) T' v') := Lib.hid fun T' hT' => {
        text := hT'
        row := by
          rw [HOT.out, List.length_append, ← Nat.add_assoc, show s :: ((bl.take k).flatMap (orP ss) ++ orP ss c) = (s :: (bl.take k).flatMap (orP ss)) ++ orP ss c from rfl, numVals_append]
          exact hown'
        box := HBX.out.grown hgrow (ownsRow_ne2 HBX.out (by decide) HROW.out)
        below := HBW.out.trans (grown_below HROW.out hgrow (Nat.le_refl w.heap.size) HBW.out.size) }
      have HTX : Hid ((((T ++ ⟨#[123]⟩) ++ T2) ++ ⟨#[125]⟩ : ByteArray).data.toList = wrBl (wrP ss) (bl.take (k + 1))) := Lib.hid (by
        rw [HWT.out, ← HT2.out, ← HP.out.text]
        simp [ByteArray.data_append])
      have HRUN := Lib.hid hrun
      clear hrow2 hla2 hc2 hown' hgrow hb2 hrun ht2 a0 g0
      go_wp2_with (at_builtin; refine wpList_append_run rfl _ _ 39 rfl HRUN.out ?_)
      go_wp2
      go_roundw
      case rel => exact ⟨k + 1, _, rfl, by go_num, by omega, Lib.hid (HP4.out _ HTX.out)⟩
      case measure => simp only [intOf]; omega
    · obtain rfl : k = bl.length := by omega
      have HTXT : Hid (T.data.toList = wrBl (wrP ss) bl) := Lib.hid (by have h := HP.out.text; rwa [List.take_length] at h)
      have hrw := HP.out.row
      rw [List.take_length] at hrw
      have HRW := Lib.hid hrw
      have hTs : T.size = (wrBl (wrP ss) bl).length := by rw [size_list, HTXT.out]
      have z1 : ¬ 9223372036854775807 < T.size + items.size := by have := H1.out; omega
      have l1 : (1 : Int) ≤ ((mo.length : Nat) : Int) + 1 := by omega
      have l2 : ((mo.length : Nat) : Int) + 1 ≤ (co : Int) := by omega
      have hmo : ∀ (j q : Nat), mo[j]? = some q → wr.cell? ⟨go, 1 + j, none⟩ = some (.int .i64 (q : Int)) := fun j q hq => (HP.out.below.cell (p := ⟨go, 1 + j, none⟩) (World.block_lt_of_cell? _ _ (HO.out j q hq))).trans (HO.out j q hq)
      have HTX : Hid ((T ++ items : ByteArray).data.toList = wrBl (wrP ss) bl ++ items.data.toList) := Lib.hid (by
        rw [← HTXT.out]
        simp [ByteArray.data_append])
      by_cases hc1 : co = 1
      · have hmo2 : ∀ (j q : Nat), mo[j]? = some q → wr.cell? ⟨go, 0 + j, none⟩ = some (.int .i64 (q : Int)) := fun j q hq => by
          have := (List.getElem?_eq_some_iff.1 hq).1
          omega
        clear hmo
        obtain ⟨v', w3, hrun, hown', hgrow⟩ := append_nums (off := 0) (cap := 0) hrw hmo2 (by have := H2.out; omega) HP.out.below.size 39
        have HFIN : Hid (w3.ownsRow w.heap.size 3 1 v' (1 + (bl.flatMap (orP ss) ++ mo).length) (numVals (s :: (bl.flatMap (orP ss) ++ mo))) ∧ Below w.heap.size w w3) := Lib.hid ⟨by
          rw [List.length_append, ← Nat.add_assoc, show s :: (bl.flatMap (orP ss) ++ mo) = (s :: bl.flatMap (orP ss)) ++ mo from rfl, numVals_append]
          exact hown', HP.out.below.trans (grown_below hrw hgrow (Nat.le_refl w.heap.size) HP.out.below.size)⟩
        have HRUN := Lib.hid hrun
        clear hrw hmo2 hown' hgrow hrun hTs
        go_wp2_with (at_builtin; refine wpList_append_run rfl _ _ 39 rfl HRUN.out ?_)
        go_wp2
        go_ret2
        exact ⟨_, _, rfl, HTX.out, HFIN.out.1, HFIN.out.2⟩
      · have hmo2 := hmo
        clear hmo
        obtain ⟨v', w3, hrun, hown', hgrow⟩ := append_nums (off := 1) (cap := co - 1) hrw hmo2 (by have := H2.out; omega) HP.out.below.size 39
        have HFIN : Hid (w3.ownsRow w.heap.size 3 1 v' (1 + (bl.flatMap (orP ss) ++ mo).length) (numVals (s :: (bl.flatMap (orP ss) ++ mo))) ∧ Below w.heap.size w w3) := Lib.hid ⟨by
          rw [List.length_append, ← Nat.add_assoc, show s :: (bl.flatMap (orP ss) ++ mo) = (s :: bl.flatMap (orP ss)) ++ mo from rfl, numVals_append]
          exact hown', HP.out.below.trans (grown_below hrw hgrow (Nat.le_refl w.heap.size) HP.out.below.size)⟩
        have HRUN := Lib.hid hrun
        clear hrw hmo2 hown' hgrow hrun hTs
        go_wp2_with (at_builtin; refine wpList_append_run rfl _ _ 39 rfl HRUN.out ?_)
        go_wp2
        go_ret2
        exact ⟨_, _, rfl, HTX.out, HFIN.out.1, HFIN.out.2⟩
/-- The head of the loop over items. -/
structure ItAt (ss : List Sc) (oa : Option Addr) (cap : Nat) (w wr : World) (s : Nat) (xs : List It) (k : Nat) (T : ByteArray) (v : Value) : Prop where
  text : T.data.toList = wrIt (wrP ss) (xs.take k)
  row : wr.ownsRow w.heap.size 3 1 v (1 + ((modK (xs.take k)).flatMap (orP ss)).length) (numVals (s :: (modK (xs.take k)).flatMap (orP ss)))
  box : Row wr w.heap.size 30 [.slice oa ss.length cap]
  below : Below w.heap.size w wr
theorem ItAt.next {ss : List Sc} {oa : Option Addr} {cap : Nat} {w wr : World} {s : Nat} {xs : List It} {k : Nat} {T T' : ByteArray} {v : Value} (h : ItAt ss oa cap w wr s xs k T v) {x : It} (hx : xs[k]? = some x) (hm : x.scope = -1) {w' : World} (hb : Below wr.heap.size wr w') (ht : T'.data.toList = T.data.toList ++ wtI x) : ItAt ss oa cap w w' s xs (k + 1) T' v where
  text := by rw [ht, h.text, wrIt_take hx, if_pos hm, List.append_nil]
  row := by rw [modK_take hx, if_pos hm, List.append_nil]; exact ownsRow_below h.row hb
  box := h.box.below hb h.box.lt
  below := h.below.trans (hb.mono h.below.size)
set_option maxRecDepth 100000 in
set_option maxHeartbeats 8000000 in
theorem l11Write_step (ss : List Sc) (hv : Valid ss) (hf : FitsScopes ss) (oa : Option Addr) (cap : Nat) (s : Nat) (hs : s < ss.length) (hrec : ∀ k ∈ kidsP ss s, WrC ss oa cap k) : WrC ss oa cap s := by
    intro w hc
    have HREC : Hid (∀ k ∈ kidsP ss s, WrC ss oa cap k ∧ ∃ n0, (orP ss k)[0]? = some n0) := Lib.hid fun k hk => ⟨hrec k hk, k, by rw [or_eq hv (kids_par hv hk).1]; rfl⟩
    obtain ⟨c, hcs⟩ : ∃ c, ss[s]? = some c := ⟨_, List.getElem?_eq_getElem hs⟩
    have HXS := Lib.hid (itemsAt_of hcs)
    have hbG := (Below.refl w.heap.size w).alloc (Nat.le_refl _) (.cells #[.slice oa ss.length cap] 30)
    have hb0 := hbG.alloc (by simp) (.cells #[.int .i64 (s : Int)] 3)
    have hro := owns_single (w.alloc (.cells #[.slice oa ss.length cap] 30)) (base := w.heap.size) (by simp) s
    rw [World.size_alloc] at hro
    have HP0 : Hid (ItAt ss oa cap w ((w.alloc (.cells #[.slice oa ss.length cap] 30)).alloc (.cells #[.int .i64 (s : Int)] 3)) s c.items 0 ⟨#[]⟩ (.slice (some ⟨w.heap.size + 1, 0, none⟩) 1 1)) := Lib.hid {
      text := rfl
      row := hro
      box := (Row.new w [.slice oa ss.length cap] 30).alloc _
      below := hb0 }
    obtain ⟨bs, off, rfl, hbs, hcells⟩ := hc.at (by omega)
    obtain ⟨oi, ci, q0, q1, hhi⟩ := hcells s c hcs
    have b1 := (hb0.cell (p := ⟨bs, off + s * 2 + 1, none⟩) hbs).trans q1
    have g0 := HP0.out.box.cell (i := 0) (v := .slice (some ⟨bs, off, none⟩) ss.length cap) (by rfl)
    have HHI := Lib.hid hhi
    have HC := Lib.hid hc
    have HV := Lib.hid hv
    have HF := Lib.hid hf
    have hlen := wr_small hv hs
    have hwr := wr_eq hv hs
    have hor := or_eq hv hs
    have horl := or_length hv hs
    have hc6 := hv.count.2
    rw [hwr, List.length_append] at hlen
    rw [hor, List.length_cons] at horl
    unfold kidsP at hor horl
    rw [List.flatMap_append] at hor horl
    rw [List.length_append] at horl
    rw [HXS.out] at hlen hwr hor horl
    have HLEN := Lib.hid (And.intro hlen horl)
    have HWR := Lib.hid hwr
    have HORR := Lib.hid hor
    have HNM : Hid (∀ x ∈ c.items, itemB x = true ∧ x.name.size = 1 ∧ (x.scope ≠ -1 → ∃ k : Nat, x.scope = (k : Int) ∧ k ∈ kidsP ss s ∧ x.kind = 1)) := Lib.hid fun x hx => by
      rw [← HXS.out] at hx
      refine ⟨(hv.items.1 _ (mem_flat_of hx)).1, ?_, fun hm => ?_⟩
      · obtain ⟨b, hb, _⟩ := item_name hv hx
        rw [size_list, hb]
        rfl
      · obtain ⟨h1, k, h2, _⟩ := mod_spec hv hx hm
        have h3 := mods_kids hx hm
        rw [h2] at h3
        exact ⟨k, h2, h3, h1⟩
    have hx5 := items_five hv s
    rw [HXS.out] at hx5
    have hbl6 : (blocksP ss s).length ≤ 100 := by
      have h1 := List.length_filter_le (fun k => decide (parP ss k = some s) && (moduleP ss (k : Int)).isNone) (List.range ss.length)
      rw [List.length_range] at h1
      unfold blocksP
      omega
    have HSS : Hid (s < ss.length) := Lib.hid hs
    have s0 : (0 : Int) ≤ (s : Int) := by omega
    have s1 : (s : Int) < ((ss.length : Nat) : Int) := by omega
    clear hrec hbG hb0 hro hc hcells q0 q1 hhi hcs hv hf hwr hor hlen horl hs
    go_enter Tryd.func70, Tryd.ntmps70
    go_wp2
    generalize c.items = xs at *
    go_loopw [6, 7, 23] (fun t v i wr => ∃ (k : Nat) (T : ByteArray), t = .string T ∧ i = .int .i64 k ∧ k ≤ xs.length ∧ Hid (ItAt ss (some ⟨bs, off, none⟩) cap w wr s xs k T v)) (fun _ _ i _ => xs.length - (intOf i).toNat)
    case atStart => exact ⟨0, _, rfl, rfl, Nat.zero_le _, HP0⟩
    case round =>
      obtain ⟨k, T, rfl, rfl, hk, HP⟩ := hrel
      by_cases hlt : k < xs.length
      · obtain ⟨x, hx⟩ : ∃ x, xs[k]? = some x := ⟨_, List.getElem?_eq_getElem hlt⟩
        obtain ⟨bx, fx, rfl, hbx, hcx⟩ : ∃ b off, oi = some ⟨b, off, none⟩ ∧ b < w.heap.size ∧ ∀ i x, xs[i]? = some x → w.cell? ⟨b, off + i * 3, none⟩ = some (.int .i64 x.kind) ∧ w.cell? ⟨b, off + i * 3 + 1, none⟩ = some (.string x.name) ∧ w.cell? ⟨b, off + i * 3 + 2, none⟩ = some (.int .i64 x.scope) := by
          rcases HHI.out with h | h
          · rw [h] at hlt; simp at hlt
          · exact h
        obtain ⟨r0, r1, r2⟩ := hcx k x hx
        have a0 := (HP.out.below.cell (p := ⟨bx, fx + k * 3, none⟩) hbx).trans r0
        have a1 := (HP.out.below.cell (p := ⟨bx, fx + k * 3 + 1, none⟩) hbx).trans r1
        have a2 := (HP.out.below.cell (p := ⟨bx, fx + k * 3 + 2, none⟩) hbx).trans r2
        have HX := Lib.hid hx
        obtain ⟨hib, hns, hmods⟩ := HNM.out x (List.mem_of_getElem? hx)
        have HMODS := Lib.hid hmods
        have HIB := Lib.hid hib
        have hbA := (Below.refl wr.heap.size wr).alloc (Nat.le_refl _) (.cells #[.int .i64 x.kind, .string x.name, .int .i64 x.scope] 138)
        have HBA := Lib.hid hbA
        have hl1 := wrIt_take_le (wrP ss) xs k
        have hTs : T.size = (wrIt (wrP ss) (xs.take k)).length := by rw [size_list, HP.out.text]
        have hT70 : T.size ≤ 70 := by have := HLEN.out.1; omega
        clear hcx r0 r1 r2 hx hib hmods hbA hl1 hTs
        by_cases h2 : x.kind = 2
        · have hm : x.scope = -1 := by
            have h := HIB.out
            simp only [itemB, Bool.and_eq_true, Bool.or_eq_true, beq_iff_eq] at h
            omega
          have k2 : (x.kind == 2) = true := by simp [h2]
          have z1 : ¬ 9223372036854775807 < T.size + 1 := by omega
          have z2 : ¬ 9223372036854775807 < T.size + 1 + x.name.size := by omega
          have HNX : Hid (ItAt ss (some ⟨bs, off, none⟩) cap w (wr.alloc (.cells #[.int .i64 x.kind, .string x.name, .int .i64 x.scope] 138)) s xs (k + 1) (T ++ ⟨#[63]⟩ ++ x.name) _) := Lib.hid (HP.out.next HX.out hm HBA.out (by unfold wtI; rw [if_pos h2]; simp [ByteArray.data_append]))
          rw [h2, hm] at HNX
          go_wp2
          go_roundw
          case rel => exact ⟨k + 1, _, rfl, by go_num, by omega, HNX⟩
          case measure => simp only [intOf]; omega
        · have k2 : (x.kind == 2) = false := by simp [h2]
          by_cases h3 : x.kind = 3
          · have hm : x.scope = -1 := by
              have h := HIB.out
              simp only [itemB, Bool.and_eq_true, Bool.or_eq_true, beq_iff_eq] at h
              omega
            have k3 : (x.kind == 3) = true := by simp [h3]
            have z1 : ¬ 9223372036854775807 < T.size + 1 := by omega
            have z2 : ¬ 9223372036854775807 < T.size + 1 + x.name.size := by omega
            have HNX : Hid (ItAt ss (some ⟨bs, off, none⟩) cap w (wr.alloc (.cells #[.int .i64 x.kind, .string x.name, .int .i64 x.scope] 138)) s xs (k + 1) (T ++ ⟨#[33]⟩ ++ x.name) _) := Lib.hid (HP.out.next HX.out hm HBA.out (by unfold wtI; rw [if_neg h2, if_pos h3]; simp [ByteArray.data_append]))
            rw [h3, hm] at HNX
            go_wp2
            go_roundw
            case rel => exact ⟨k + 1, _, rfl, by go_num, by omega, HNX⟩
            case measure => simp only [intOf]; omega
          · have k3 : (x.kind == 3) = false := by simp [h3]
            have HWI : Hid (wtI x = x.name.data.toList) := Lib.hid (by unfold wtI; rw [if_neg h2, if_neg h3])
            have z1 : ¬ 9223372036854775807 < T.size + x.name.size := by omega
            by_cases hm : x.scope = -1
            · have hneg : x.scope < 0 := by omega
              have HNX : Hid (ItAt ss (some ⟨bs, off, none⟩) cap w (wr.alloc (.cells #[.int .i64 x.kind, .string x.name, .int .i64 x.scope] 138)) s xs (k + 1) (T ++ x.name) _) := Lib.hid (HP.out.next HX.out hm HBA.out (by rw [HWI.out]; simp [ByteArray.data_append]))
              rw [hm] at HNX
              go_wp2
              go_roundw
              case rel => exact ⟨k + 1, _, rfl, by go_num, by omega, HNX⟩
              case measure => simp only [intOf]; omega
            · obtain ⟨km, hkm, hkk, -⟩ := HMODS.out hm
              have hpos : ¬ x.scope < 0 := by omega
              obtain ⟨hwc, n0, hn0⟩ := HREC.out km hkk
              have HNE : Hid (∃ n0, (orP ss km)[0]? = some n0) := Lib.hid ⟨n0, hn0⟩
              have hkt : x.scope.toNat = km := by omega
              have HBW1 := Lib.hid (HP.out.below.trans (HBA.out.mono HP.out.below.size))
              have CW : Hid (Calls Tryd.prog 70 #[.agg #[.slice (some ⟨bs, off, none⟩) ss.length cap], .int .i64 x.scope] (wr.alloc (.cells #[.int .i64 x.kind, .string x.name, .int .i64 x.scope] 138)) (WrGot ss km (wr.alloc (.cells #[.int .i64 x.kind, .string x.name, .int .i64 x.scope] 138)))) := Lib.hid (by
                have h := hwc (wr.alloc (.cells #[.int .i64 x.kind, .string x.name, .int .i64 x.scope] 138)) (HC.out.below HBW1.out (Nat.le_refl _))
                rw [← hkm] at h
                exact h)
              have HWT : Hid (wrIt (wrP ss) (xs.take (k + 1)) = wrIt (wrP ss) (xs.take k) ++ (x.name.data.toList ++ 123 :: (wrP ss km ++ [125]))) := Lib.hid (by rw [wrIt_take HX.out, if_neg hm, HWI.out, hkt])
              have HOT : Hid ((modK (xs.take (k + 1))).flatMap (orP ss) = (modK (xs.take k)).flatMap (orP ss) ++ orP ss km) := Lib.hid (by rw [modK_take HX.out, if_neg hm, hkt, List.flatMap_append]; simp)
              have hl1 := wrIt_take_le (wrP ss) xs (k + 1)
              rw [HWT.out, List.length_append, List.length_append, List.length_cons, List.length_append, List.length_cons, List.length_nil] at hl1
              have hl2 := modK_take_le (f := orP ss) xs (k + 1)
              rw [HOT.out, List.length_append] at hl2
              have hT2 : T.size = (wrIt (wrP ss) (xs.take k)).length := by rw [size_list, HP.out.text]
              have hnl : x.name.size = x.name.data.toList.length := size_list _
              have HLS : Hid (T.size + x.name.size + (wrP ss km).length + 2 ≤ 70) := Lib.hid (by have := HLEN.out.1; omega)
              have HOR : Hid (1 + ((modK (xs.take k)).flatMap (orP ss)).length + (orP ss km).length ≤ 2000) := Lib.hid (by have := HLEN.out.2; omega)
              have gb := (HP.out.box.alloc (.cells #[.int .i64 x.kind, .string x.name, .int .i64 x.scope] 138)).cell (i := 0) (v := .slice (some ⟨bs, off, none⟩) ss.length cap) (by rfl)
              clear hwc hn0 hl1 hl2 hT2 hnl hkm hkt
              go_wp2_with fail
              refine CW.out.mono ?_
              rintro e w2 ⟨T2, v2, rfl, ht2, hrow2, hb2⟩
              have hT2s : T2.size = (wrP ss km).length := by rw [size_list, ht2]
              have HTX : Hid ((T ++ x.name ++ ⟨#[123]⟩ ++ T2 ++ ⟨#[125]⟩ : ByteArray).data.toList = wrIt (wrP ss) (xs.take (k + 1))) := Lib.hid (by
                rw [HWT.out, ← ht2, ← HP.out.text]
                simp [ByteArray.data_append])
              have z2 : ¬ 9223372036854775807 < T.size + x.name.size + 1 := by have := HLS.out; omega
              have z3 : ¬ 9223372036854775807 < T.size + x.name.size + 1 + T2.size := by have := HLS.out; omega
              have z4 : ¬ 9223372036854775807 < T.size + x.name.size + 1 + T2.size + 1 := by have := HLS.out; omega
              have RX := Lib.hid ((Row.new wr [.int .i64 x.kind, .string x.name, .int .i64 x.scope] 138).below hb2 (by simp))
              have x1 := RX.out.cell (i := 1) (v := .string x.name) (by rfl)
              have HROW := Lib.hid (ownsRow_below (ownsRow_below HP.out.row HBA.out) hb2)
              have HBX := Lib.hid ((HP.out.box.alloc (.cells #[.int .i64 x.kind, .string x.name, .int .i64 x.scope] 138)).below hb2 (HP.out.box.alloc (.cells #[.int .i64 x.kind, .string x.name, .int .i64 x.scope] 138)).lt)
              have HBW := Lib.hid (HBW1.out.trans (hb2.mono HBW1.out.size))
              obtain ⟨ol2, cl2, rfl, hla2⟩ := listAt_of_owns hrow2
              have hne2 : ∃ g2, ol2 = some ⟨g2, 0, none⟩ ∧ ∀ (j q : Nat), (orP ss km)[j]? = some q → w2.cell? ⟨g2, 0 + j, none⟩ = some (.int .i64 (q : Int)) := by
                obtain ⟨n0, hn0⟩ := HNE.out
                obtain ⟨g2, h1, -, -⟩ := hla2 0 n0 hn0
                refine ⟨g2, h1, fun j q hq => ?_⟩
                obtain ⟨g3, h4, -, h5⟩ := hla2 j q hq
                rw [h1] at h4
                cases h4
                rw [Nat.zero_add]
                exact h5
              obtain ⟨g2, rfl, hc2⟩ := hne2
              obtain ⟨v', w3, hrun, hown', hgrow⟩ := append_nums (cap := cl2) HROW.out hc2 (by have := HOR.out; omega) HBW.out.size 39
              have HP4 : Hid (ItAt ss (some ⟨bs, off, none⟩) cap w w3 s xs (k + 1) (T ++ x.name ++ ⟨#[123]⟩ ++ T2 ++ ⟨#[125]⟩) v') := Lib.hid {
                text := HTX.out
                row := by
                  rw [HOT.out, List.length_append, ← Nat.add_assoc, show s :: ((modK (xs.take k)).flatMap (orP ss) ++ orP ss km) = (s :: (modK (xs.take k)).flatMap (orP ss)) ++ orP ss km from rfl, numVals_append]
                  exact hown'
                box := HBX.out.grown hgrow (ownsRow_ne2 HBX.out (by decide) HROW.out)
                below := HBW.out.trans (grown_below HROW.out hgrow (Nat.le_refl w.heap.size) HBW.out.size) }
              have HRUN := Lib.hid hrun
              clear hrow2 hla2 hc2 hown' hgrow hb2 hrun ht2 a0 a1 a2
              go_wp2_with (at_builtin; refine wpList_append_run rfl _ _ 39 rfl HRUN.out ?_)
              go_wp2
              go_roundw
              case rel => exact ⟨k + 1, _, rfl, by go_num, by omega, HP4⟩
              case measure => simp only [intOf]; omega
      · obtain rfl : k = xs.length := by omega
        have htx := HP.out.text
        rw [List.take_length] at htx
        have hrw := HP.out.row
        rw [List.take_length] at hrw
        have CB := Lib.hid (specBlocks_any ss HF.out (some ⟨bs, off, none⟩) cap (s : Int) wr (HC.out.below HP.out.below (Nat.le_refl _)))
        have g1 := HP.out.box.cell (i := 0) (v := .slice (some ⟨bs, off, none⟩) ss.length cap) (by rfl)
        have HTX := Lib.hid htx
        obtain ⟨mo, hmo⟩ : ∃ mo, (modK xs).flatMap (orP ss) = mo := ⟨_, rfl⟩
        rw [hmo] at hrw
        have HRW := Lib.hid hrw
        have HORM : Hid (orP ss s = s :: ((blocksP ss s).flatMap (orP ss) ++ mo)) := Lib.hid (by rw [HORR.out, hmo])
        have HLM : Hid (mo.length + ((blocksP ss s).flatMap (orP ss)).length ≤ 1000) := Lib.hid (by have h := HLEN.out.2; rw [hmo] at h; omega)
        clear htx hrw hmo
        go_wp2_with fail
        refine CB.out.mono ?_
        rintro e w2 (⟨hno, -⟩ | ⟨-, u, rfl, hbl, hb2⟩)
        · exact absurd ⟨HV.out, by omega, by have := HSS.out; omega⟩ hno
        · rw [Int.toNat_natCast] at hbl
          obtain ⟨ob, cb, rfl, hlb⟩ := listAt_of_owns hbl
          have hrw2 := ownsRow_below HRW.out hb2
          have hrw3 : w2.ownsRow w.heap.size 3 1 u7 (s :: mo).length (numVals (s :: mo)) := by
            rw [List.length_cons, Nat.add_comm]
            exact hrw2
          have hcap : ∃ cap2, mo = mo ∧ ∃ oo, u7 = Value.slice oo (mo.length + 1) cap2 ∧ mo.length + 1 ≤ cap2 ∧ ListAt w2 w.heap.size oo (s :: mo) := by
            obtain ⟨hl, h2 | ⟨g, cap2, cur, hv2, hB, hh, hn, _, hs, ht⟩⟩ := id hrw3
            · exact absurd h2.2 (by simp)
            · obtain ⟨oo, cap3, h5, h6⟩ := listAt_of_owns hrw3
              rw [hv2] at h5
              injection h5 with h7 h8 h9
              subst h7
              exact ⟨cap2, rfl, _, hv2, hn, h6⟩
          obtain ⟨cap2, -, oo, rfl, hc2, hlo⟩ := hcap
          have HBW := Lib.hid (HP.out.below.trans (hb2.mono HP.out.below.size))
          have HBX := Lib.hid (HP.out.box.below hb2 HP.out.box.lt)
          have g3 := HBX.out.cell (i := 0) (v := .slice (some ⟨bs, off, none⟩) ss.length cap) (by rfl)
          have hTl : T.size = (wrIt (wrP ss) xs).length := by rw [size_list, HTX.out]
          have CF := Lib.hid (l11Blocks_any ss (some ⟨bs, off, none⟩) cap s (blocksP ss s) (fun k hk => (HREC.out k (List.mem_append_left _ hk)).1) (fun k hk => (HREC.out k (List.mem_append_left _ hk)).2) T (mo) (by have := HLEN.out.1; omega) HLM.out hbl6 w2 (HC.out.below HBW.out (Nat.le_refl _)) oo ob cap2 cb (fun i k hk => by obtain ⟨g, h1, -, h3⟩ := hlo i k hk; exact ⟨g, h1, Nat.zero_le _, h3⟩) hc2 (fun i k hk => by obtain ⟨g, h1, -, h3⟩ := hlb i k hk; exact ⟨g, h1, Nat.zero_le _, h3⟩))
          clear hbl hb2 hlb hrw2 hrw3 hlo hTl g1 b1 g0
          go_wp2_with fail
          refine CF.out.mono ?_
          rintro e w3 ⟨TF, vf, rfl, htf, hrf, hb3⟩
          have HFIN : Hid (TF.data.toList = wrP ss s ∧ w3.ownsRow w.heap.size 3 1 vf (orP ss s).length (numVals (orP ss s)) ∧ Below w.heap.size w w3) := Lib.hid ⟨by rw [htf, HTX.out, HWR.out], by
            have h := ownsRow_lower hrf HBW.out.size
            rw [HORM.out, List.length_cons, Nat.add_comm]
            exact h, HBW.out.trans (hb3.mono HBW.out.size)⟩
          clear htf hrf hb3 CF CB
          go_wp2
          go_ret2
          exact ⟨_, _, rfl, HFIN.out.1, HFIN.out.2.1, HFIN.out.2.2⟩
theorem l11Write_any (ss : List Sc) (hv : Valid ss) (hf : FitsScopes ss) (oa : Option Addr) (cap : Nat) : ∀ (m s : Nat), ss.length ≤ s + m → s < ss.length → WrC ss oa cap s
  | 0, s, hm, hs => by omega
  | m + 1, s, hm, hs => l11Write_step ss hv hf oa cap s hs fun k hk => by
    have h1 := kids_lt hv hk
    exact l11Write_any ss hv hf oa cap m k (by omega) (kids_par hv hk).1
end Go.Proofs.YtifjljkbfabifaaDoor
