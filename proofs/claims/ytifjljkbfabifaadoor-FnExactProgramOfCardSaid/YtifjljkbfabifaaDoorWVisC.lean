/-
  The walks of impl's counter and of a visit of a scope by it: each scope gets the number that it has in the program. Conditions: the tree lies in memory, the counter behind it.
-/
import Derived.Test.YtifjljkbfabifaaDoorProgP
import Derived.Test.YtifjljkbfabifaaDoorWBlocks
import Derived.Test.YtifjljkbfabifaaDoorJC
namespace Go
open Go Go.RowKit
section
variable {F : Fence} {n : Nat} {P : Program} {md : Region.Mode} {ops : Array Oper} {Q : Exit → Act → World → Prop} {S : World → Prop} {L : Nat}
/-- KeptAny.take with what is only computed. -/
theorem KeptAny.tv {oi : Oper} {v : Value} {k : Nat} {l : Array Bool} {a : Act} {w : World} (i : Nat) (hS : S w) (hrun : ∀ w, S w → (execOp a.eval oi).run P w = .ok (.value v) w)
    (h : KeptAny F n P md ops Q S L k (l.setIfInBounds i true) (a.put oi.dst v) w) (hi : ops[i]? = some oi := by rfl) (hL : waitsFor md ops L i = true := by kernel_rfl) (hro : F.round = none := by rfl) (hs : Region.noSelect ops = true := by kernel_rfl)
    (hf : Region.free md ops l i = true := by kernel_rfl) (hr : (Region.ready md ops l).contains i = true := by kernel_rfl) (hQ : ∀ c a w, Q (.panic c) (a.put oi.dst v) w → Q (.panic c) a w := by exact fun _ _ _ h => h)
    (hw : Region.wanted oi (yielded ops a.tmps) = true := by kernel_rfl) (hab : ∀ w, oi.about P w a.eval = none := by exact fun _ => rfl) : KeptAny F n P md ops Q S L (k + 1) l a w :=
  KeptAny.take hL hro hi hs hf hr hQ hw hrun hab hS h
end
end Go
namespace Go.Proofs.YtifjljkbfabifaaDoor
open Go Go.RowKit Go.Maps
/-- Numbers given in order. -/
def numU (l : List Nat) (nx : Nat) : List Nat → List Nat
  | [] => l
  | k :: os => numU (l.set k nx) (nx + 1) os
theorem numU_append (l : List Nat) (nx : Nat) : ∀ a b : List Nat, numU l nx (a ++ b) = numU (numU l nx a) (nx + a.length) b := by
  intro a
  induction a generalizing l nx with
  | nil => intro b; rfl
  | cons k a ih =>
    intro b
    rw [List.cons_append, numU, numU, ih, List.length_cons, Nat.add_right_comm, Nat.add_assoc]
theorem numU_length (l : List Nat) (nx : Nat) (os : List Nat) : (numU l nx os).length = l.length := by
  induction os generalizing l nx with
  | nil => rfl
  | cons k os ih => rw [numU, ih, List.length_set]
/-- The counter in memory. -/
structure CtIs (w : World) (C G cp nx : Nat) (l : List Nat) : Prop where
  box : Row w C 112 [.int .i64 (nx : Int), .slice (some ⟨G, 0, none⟩) l.length cp]
  row : Row w G 3 (numVals l)
theorem Turns.row2 {w w' : World} {C G : Nat} (h : Turns w w' C G) {g : Nat} {t : TypeId} {vs : List Value} (hr : Row w g t vs) (h1 : g ≠ C) (h2 : g ≠ G) : Row w' g t vs := (h.rest g hr.lt h1 h2).trans hr
theorem Turns.under {w0 w w' : World} {C G : Nat} (h : Turns w w' C G) (hb : Below w0.heap.size w0 w) (h1 : w0.heap.size ≤ C) (h2 : w0.heap.size ≤ G) : Below w0.heap.size w0 w' :=
  hb.trans ⟨h.os, h.tape, h.output, h.size, fun k hk => h.rest k (Nat.lt_of_lt_of_le hk hb.size) (by omega) (by omega)⟩
theorem CtIs.step {w : World} {C G cp nx : Nat} {l : List Nat} (h : CtIs w C G cp nx l) (s : Nat) : CtIs ((w.setCell ⟨G, s, none⟩ (.int .i64 (nx : Int))).setCell ⟨C, 0, none⟩ (.int .i64 ((nx : Int) + 1))).drew C G cp (nx + 1) (l.set s nx) := by
  have hne : C ≠ G := h.box.neq h.row (by decide)
  refine ⟨?_, ?_⟩
  · have h1 := (h.box.other (a := ⟨G, s, none⟩) (by show G ≠ C; exact hne.symm) (.int .i64 (nx : Int))).set 0 (.int .i64 ((nx : Int) + 1))
    rw [List.length_set, show ((nx + 1 : Nat) : Int) = (nx : Int) + 1 by omega]
    exact h1
  · have h1 := (h.row.set s (.int .i64 (nx : Int))).other (a := ⟨C, 0, none⟩) (by show C ≠ G; exact hne) (.int .i64 ((nx : Int) + 1))
    have e : numVals (l.set s nx) = (numVals l).set s (.int .i64 (nx : Int)) := by unfold numVals; rw [List.map_set]
    rw [e]
    exact h1
theorem turns_step {w : World} {C G : Nat} (s : Nat) (x y : Value) : Turns w ((w.setCell ⟨G, s, none⟩ x).setCell ⟨C, 0, none⟩ y).drew C G :=
  ⟨rfl, rfl, rfl, by simp, fun g _ h1 h2 => (Below.heap_setCell _ _ _ _ h1).trans (Below.heap_setCell _ _ _ _ h2)⟩
set_option maxRecDepth 100000 in
set_option maxHeartbeats 4000000 in
theorem countBegin_any {w : World} {C G cp nx s b : Nat} {l : List Nat} {vs : List Value} (h : CtIs w C G cp nx l) (hs : s < l.length) (hn : nx ≤ 1000) (_ : l.length ≤ 1000) (hd : Row w b 166 (.int .i64 (s : Int) :: vs)) :
    Calls Tryd.prog 222 #[.pointer (some ⟨C, 0, none⟩), .pointer (some ⟨b, 0, none⟩)] w fun e w' => e = .returned (.tuple #[]) ∧ CtIs w' C G cp (nx + 1) (l.set s nx) ∧ Turns w w' C G := by
  have hne : C ≠ G := h.box.neq h.row (by decide)
  have c0 := h.box.cell (i := 0) (v := .int .i64 (nx : Int)) (by rfl)
  have c1 := h.box.cell (i := 1) (v := .slice (some ⟨G, 0, none⟩) l.length cp) (by rfl)
  have d0 := hd.cell (i := 0) (v := .int .i64 (s : Int)) (by rfl)
  obtain ⟨x, hx⟩ : ∃ x, l[s]? = some x := ⟨_, List.getElem?_eq_getElem hs⟩
  have r0 := h.row.cell (i := s) (v := .int .i64 (x : Int)) (by unfold numVals; rw [List.getElem?_map, hx]; rfl)
  have rf := h.row.frozen s
  have cf := h.box.frozen 0
  have hs0 : (0 : Int) ≤ (s : Int) := by omega
  have hsl : (s : Int) < ((l.length : Nat) : Int) := by omega
  have HFIN := Lib.hid (And.intro (h.step s) (turns_step (w := w) (C := C) (G := G) s (.int .i64 (nx : Int)) (.int .i64 ((nx : Int) + 1))))
  have u1 : IntKind.i64.wrap ((nx : Int) + 1) = (nx : Int) + 1 := by rw [wrap_small _ (by omega) (by omega)]
  clear h hd hx
  go_enter Tryd.func222, Tryd.ntmps222
  go_wp2
  go_region
  all_goals go_wp2
  all_goals go_end0
  all_goals exact ⟨rfl, HFIN.out⟩
/-- A list of numbers that lies behind block B. -/
def ListAt (w : World) (B : Nat) (oa : Option Addr) (l : List Nat) : Prop := ∀ i k : Nat, l[i]? = some k → ∃ g : Nat, oa = some ⟨g, 0, none⟩ ∧ B ≤ g ∧ w.cell? ⟨g, i, none⟩ = some (.int .i64 (k : Int))
theorem listAt_of_owns {w : World} {B : Nat} {v : Value} {l : List Nat} (h : w.ownsRow B 3 1 v l.length (numVals l)) : ∃ oa cap, v = .slice oa l.length cap ∧ ListAt w B oa l := by
  obtain ⟨hl, h2 | ⟨g, cap, cur, hv, hB, hh, hn, _, hs, ht⟩⟩ := id h
  · refine ⟨none, 0, by rw [h2.1, h2.2], fun i k hk => ?_⟩
    rw [List.eq_nil_of_length_eq_zero h2.2] at hk
    cases hk
  · refine ⟨_, cap, hv, fun i k hk => ⟨g, rfl, hB, ?_⟩⟩
    have h3 := h.cells (g := g) (by rw [hv]; rfl) i (.int .i64 (k : Int)) (by unfold numVals; rw [List.getElem?_map, hk]; rfl)
    rw [Addr.add_lit] at h3
    simpa using h3
theorem ListAt.turns {w w' : World} {B C G : Nat} {oa : Option Addr} {l : List Nat} (h : ListAt w B oa l) (ht : Turns w w' C G) (hC : C < B) (hG : G < B) : ListAt w' B oa l := fun i k hk => by
  obtain ⟨g, h1, h2, h3⟩ := h i k hk
  exact ⟨g, h1, h2, (World.cell?_of_block (a := ⟨g, i, none⟩) (ht.rest g (World.block_lt_of_cell? _ _ h3) (by omega) (by omega))).trans h3⟩
theorem CtIs.below {w w' : World} {C G cp nx : Nat} {l : List Nat} (h : CtIs w C G cp nx l) (hb : Below w.heap.size w w') : CtIs w' C G cp nx l := ⟨h.box.below hb h.box.lt, h.row.below hb h.row.lt⟩
theorem Turns.tr {a b c : World} {C G : Nat} (h : Turns a b C G) (k : Turns b c C G) : Turns a c C G :=
  ⟨k.os.trans h.os, k.tape.trans h.tape, k.output.trans h.output, Nat.le_trans h.size k.size, fun g hg h1 h2 => (k.rest g (Nat.lt_of_lt_of_le hg h.size) h1 h2).trans (h.rest g hg h1 h2)⟩
theorem flat_take_le {f : Nat → List Nat} (l : List Nat) (n : Nat) : ((l.take n).flatMap f).length ≤ (l.flatMap f).length := by
  conv => rhs; rw [← List.take_append_drop n l, List.flatMap_append, List.length_append]
  omega
theorem modK_take_le {f : Nat → List Nat} (xs : List It) (n : Nat) : ((modK (xs.take n)).flatMap f).length ≤ ((modK xs).flatMap f).length := by
  have e : modK xs = modK (xs.take n) ++ modK (xs.drop n) := by
    conv => lhs; rw [← List.take_append_drop n xs]
    unfold modK
    rw [List.filter_append, List.map_append]
  rw [e, List.flatMap_append, List.length_append]
  omega
theorem countShow_any (C : Nat) (k s : Int) (nm : ByteArray) (w : World) :
    Calls Tryd.prog 224 #[.pointer (some ⟨C, 0, none⟩), .agg #[.int .i64 k, .string nm, .int .i64 s]] w fun e w' => e = .returned (.tuple #[]) ∧ Below w.heap.size w w' := by
  go_enter Tryd.func224, Tryd.ntmps224
  go_wp2
  go_end0
  exact ⟨rfl, by first | exact Below.refl _ _ | exact (Below.refl _ _).alloc (Nat.le_refl _) _⟩
theorem countEnd_any (C b : Nat) (w : World) :
    Calls Tryd.prog 223 #[.pointer (some ⟨C, 0, none⟩), .pointer (some ⟨b, 0, none⟩)] w fun e w' => e = .returned (.tuple #[]) ∧ Below w.heap.size w w' := by
  go_enter Tryd.func223, Tryd.ntmps223
  go_wp2
  go_end0
  exact ⟨rfl, Below.refl _ _⟩
/-- What a visit does. -/
def VisitC (ss : List Sc) (w0 : World) (T C G cp s blk : Nat) : Prop := ∀ (w : World) (nx : Nat) (l : List Nat), Below w0.heap.size w0 w → CtIs w C G cp nx l → l.length = ss.length → nx + (orP ss s).length ≤ 100 →
    Calls Tryd.prog 72 #[.pointer (some ⟨T, 0, none⟩), .pointer (some ⟨blk, 0, none⟩), .iface 113 (.pointer (some ⟨C, 0, none⟩))] w fun e w' => e = .returned (.tuple #[]) ∧ CtIs w' C G cp (nx + (orP ss s).length) (numU l nx (orP ss s)) ∧ Turns w w' C G
set_option maxRecDepth 100000 in
set_option maxHeartbeats 8000000 in
theorem visitC_any {ss : List Sc} (hv : Valid ss) {w0 : World} {B T M1 M2 : Nat} {v : Value} {ds : List Nd} (hT : TreeIs w0 B T M1 M2 v ds ss) {C G cp : Nat} (hC : w0.heap.size ≤ C) (hG : w0.heap.size ≤ G) : ∀ (m s : Nat), ss.length ≤ s + m → ∀ d, ds[s]? = some d → VisitC ss w0 T C G cp s d.blk
  | 0, s, hm, d, hd => by
    have := (List.getElem?_eq_some_iff.1 hd).1
    have := hT.hold.len
    omega
  | m + 1, s, hm, d, hd => by
    intro w nx l hb hc hll hnx
    have hdl := hT.hold.len
    have hs : s < ss.length := by have := (List.getElem?_eq_some_iff.1 hd).1; omega
    have HREC : Hid (∀ k ∈ kidsP ss s, k < ds.length ∧ ∃ dk, ds[k]? = some dk ∧ VisitC ss w0 T C G cp k dk.blk) := Lib.hid fun k hk => by
      have h1 := kids_lt hv hk
      have h2 := (kids_par hv hk).1
      obtain ⟨dk, hdk⟩ : ∃ e, ds[k]? = some e := ⟨_, List.getElem?_eq_getElem (by omega)⟩
      exact ⟨by omega, dk, hdk, visitC_any hv hT hC hG m k (by omega) dk hdk⟩
    have HOR := Lib.hid (or_eq hv hs)
    obtain ⟨c, hcs⟩ : ∃ c, ss[s]? = some c := ⟨_, List.getElem?_eq_getElem hs⟩
    have HXS := Lib.hid (itemsAt_of hcs)
    have HMS : Hid (∀ x ∈ itemsAt ss s, x.scope ≠ -1 → ∃ k : Nat, x.scope = (k : Int) ∧ x.scope.toNat ∈ kidsP ss s) := Lib.hid fun x hx hm => by
      obtain ⟨_, k, h1, _⟩ := mod_spec hv hx hm
      exact ⟨k, h1, mods_kids hx hm⟩
    have h5 := items_five hv s
    obtain ⟨oi, ci, hdi, hhi⟩ := hT.hold.items s d c hd hcs
    have HHI := Lib.hid hhi
    obtain ⟨g, cap', hvv, hgB, hg, hslot⟩ := hT.tree.slot (hT.ne hv)
    have HSL := Lib.hid hslot
    have HT0 := Lib.hid (hT.tree.box.cell (i := 0) (v := v) (by rfl))
    have HTL := hT.tree.box.lt
    have nd := (hT.tree.node s d hd).2
    have HN2 := Lib.hid (nd.cell (i := 2) (v := d.items) (by rfl))
    have HNL := nd.lt
    rw [hdi] at HN2
    rw [hvv] at HT0
    have C1 := Lib.hid (countBegin_any hc (by rw [hll]; exact hs) (by omega) (by rw [hll]; have := hv.count.2; omega) (nd.below hb nd.lt))
    have HB := Lib.hid hb
    have HLL : Hid (l.length = ss.length) := Lib.hid hll
    have HNX := Lib.hid hnx
    have C2' : Hid (∀ w1, Below w0.heap.size w0 w1 → Calls Tryd.prog 82 #[.pointer (some ⟨T, 0, none⟩), .pointer (some ⟨d.blk, 0, none⟩)] w1 fun e w' => ∃ u, e = .returned u ∧ w'.ownsRow w1.heap.size 3 1 u (blocksP ss s).length (numVals (blocksP ss s)) ∧ Below w1.heap.size w1 w') := Lib.hid fun w1 h1 => blocks_any hv (hT.below h1) hd
    have HTR0 : Hid (∀ w1, Turns w w1 C G → Below w0.heap.size w0 w1) := Lib.hid fun w1 h => h.under HB.out hC hG
    have hbl6 : (blocksP ss s).length ≤ 100 := by
      have h1 := List.length_filter_le (fun k => decide (parP ss k = some s) && (moduleP ss (k : Int)).isNone) (List.range ss.length)
      rw [List.length_range] at h1
      have h2 := hv.count.2
      unfold blocksP
      omega
    clear hm hdl hs hcs hhi hdi hvv hslot nd hc hb hll hnx hv hT hd
    unfold kidsP at HREC HOR HMS
    rw [HXS.out] at HREC HOR HMS h5
    generalize blocksP ss s = bl at *
    generalize c.items = xs at *
    generalize d.blk = db at *
    have hm1 : ∀ w, (method 392 113 (.pointer (some ⟨C, 0, none⟩)) "loop.example/scopegraphs/impl.begin").run Tryd.prog w = .ok (222, .pointer (some ⟨C, 0, none⟩)) w := fun _ => by kernel_rfl
    have hm2 : ∀ w, (method 392 113 (.pointer (some ⟨C, 0, none⟩)) "loop.example/scopegraphs/impl.show").run Tryd.prog w = .ok (224, .pointer (some ⟨C, 0, none⟩)) w := fun _ => by kernel_rfl
    have hm3 : ∀ w, (method 392 113 (.pointer (some ⟨C, 0, none⟩)) "loop.example/scopegraphs/impl.end").run Tryd.prog w = .ok (223, .pointer (some ⟨C, 0, none⟩)) w := fun _ => by kernel_rfl
    go_enter Tryd.func72, Tryd.ntmps72
    go_wp2_with fail
    refine C1.out.mono ?_
    rintro e w1 ⟨rfl, hc1, ht1⟩
    have C2 := Lib.hid (C2'.out w1 (HTR0.out w1 ht1))
    have HT1 := Lib.hid ht1
    have HC1 := Lib.hid hc1
    have hC1 : C < w1.heap.size := hc1.box.lt
    have hG1 : G < w1.heap.size := hc1.row.lt
    clear C1 hm1 ht1 hc1
    go_wp2_with fail
    refine C2.out.mono ?_
    rintro e w2 ⟨u, rfl, hrow, hb2⟩
    obtain ⟨ol, cl, rfl, hla⟩ := listAt_of_owns hrow
    have HLA := Lib.hid hla
    have HT2 : Hid (Turns w w2 C G) := Lib.hid (HT1.out.tr (Turns.of_below hb2))
    have HC2 := Lib.hid (HC1.out.below hb2)
    have hw12 := hb2.size
    clear hrow hla hb2 C2 C2'
    go_wp2
    go_loopw [17] (fun i wr => ∃ k : Nat, i = .int .i64 k ∧ k ≤ bl.length ∧ Hid (CtIs wr C G cp (nx + 1 + ((bl.take k).flatMap (orP ss)).length) (numU (l.set s nx) (nx + 1) ((bl.take k).flatMap (orP ss)))) ∧ Hid (Turns w2 wr C G)) (fun i _ => bl.length - (intOf i).toNat)
    case atStart => exact ⟨0, rfl, Nat.zero_le _, HC2, Lib.hid (Turns.of_below (Below.refl _ _))⟩
    case round =>
      obtain ⟨k, rfl, hk, HCR, HTR⟩ := hrel
      have HTW : Hid (Turns w wr C G) := Lib.hid (HT2.out.tr HTR.out)
      by_cases hlt : k < bl.length
      · obtain ⟨c2, hck⟩ : ∃ c2, bl[k]? = some c2 := ⟨_, List.getElem?_eq_getElem hlt⟩
        obtain ⟨hcl, dk, hdk, hvis⟩ := HREC.out c2 (List.mem_append_left _ (List.mem_of_getElem? hck))
        obtain ⟨gl, rfl, hgl, hcell⟩ := HLA.out k c2 hck
        have hbr := HTR0.out wr HTW.out
        have a0 := (World.cell?_of_block (a := ⟨gl, k, none⟩) (HTR.out.rest gl (World.block_lt_of_cell? _ _ hcell) (by omega) (by omega))).trans hcell
        have t0 := (hbr.cell (p := ⟨T, 0, none⟩) HTL).trans HT0.out
        have s0 := (hbr.cell (p := ⟨g, c2, none⟩) hg).trans (HSL.out c2 dk hdk)
        unfold Nd.ptr at s0
        have i0 : (0 : Int) ≤ (c2 : Int) := by omega
        have i1 : (c2 : Int) < ((ds.length : Nat) : Int) := by omega
        have htk : (bl.take (k + 1)).flatMap (orP ss) = (bl.take k).flatMap (orP ss) ++ orP ss c2 := by rw [List.take_add_one, hck, List.flatMap_append]; simp
        have HTK := Lib.hid htk
        have hle := flat_take_le (f := orP ss) bl (k + 1)
        rw [htk, List.length_append] at hle
        have HBD : Hid (nx + 1 + ((bl.take k).flatMap (orP ss)).length + (orP ss c2).length ≤ 100) := Lib.hid (by
          have h1 := HNX.out
          rw [HOR.out, List.length_cons, List.flatMap_append, List.length_append] at h1
          omega)
        have HV := Lib.hid (hvis wr _ _ hbr HCR.out (by rw [numU_length, List.length_set]; exact HLL.out) HBD.out)
        generalize dk.blk = dkb at *
        clear hck hdk hvis hcell hbr htk hle
        go_wp2_with fail
        refine HV.out.mono ?_
        rintro e w3 ⟨rfl, hc3, ht3⟩
        have HC3 : Hid (CtIs w3 C G cp (nx + 1 + ((bl.take (k + 1)).flatMap (orP ss)).length) (numU (l.set s nx) (nx + 1) ((bl.take (k + 1)).flatMap (orP ss)))) := Lib.hid (by
          rw [HTK.out, List.length_append, numU_append, ← Nat.add_assoc]
          exact hc3)
        have HT3 := Lib.hid (HTR.out.tr ht3)
        clear hc3 ht3 HV
        go_wp2
        go_roundw
        case rel => exact ⟨k + 1, by go_num, by omega, HC3, HT3⟩
        case measure => simp only [intOf]; omega
      · obtain rfl : k = bl.length := by omega
        rw [List.take_length] at HCR
        have hbr := HTR0.out wr HTW.out
        have n2 := (hbr.cell (p := ⟨db, 2, none⟩) HNL).trans HN2.out
        have w0s := hbr.size
        clear hbr hlt
        have HC3 : Hid (CtIs wr C G cp (nx + 1 + (bl.flatMap (orP ss) ++ (modK (xs.take 0)).flatMap (orP ss)).length) (numU (l.set s nx) (nx + 1) (bl.flatMap (orP ss) ++ (modK (xs.take 0)).flatMap (orP ss)))) := Lib.hid (by
          have h := HCR.out
          simpa [modK] using h)
        go_wp2
        generalize wr = V at *
        go_loopw [37] (fun i wr => ∃ j : Nat, i = .int .i64 j ∧ j ≤ xs.length ∧ Hid (CtIs wr C G cp (nx + 1 + (bl.flatMap (orP ss) ++ (modK (xs.take j)).flatMap (orP ss)).length) (numU (l.set s nx) (nx + 1) (bl.flatMap (orP ss) ++ (modK (xs.take j)).flatMap (orP ss)))) ∧ Hid (Turns w wr C G)) (fun i _ => xs.length - (intOf i).toNat)
        case atStart => exact ⟨0, rfl, Nat.zero_le _, HC3, HTW⟩
        case round =>
          obtain ⟨j, rfl, hj, HCQ, HTQ⟩ := hrel
          have hbq := HTR0.out wr HTQ.out
          by_cases hjl : j < xs.length
          · obtain ⟨x, hx⟩ : ∃ x, xs[j]? = some x := ⟨_, List.getElem?_eq_getElem hjl⟩
            obtain ⟨bx, off, rfl, hbx, hcx⟩ : ∃ b off, oi = some ⟨b, off, none⟩ ∧ b < w0.heap.size ∧ ∀ i x, xs[i]? = some x → w0.cell? ⟨b, off + i * 3, none⟩ = some (.int .i64 x.kind) ∧ w0.cell? ⟨b, off + i * 3 + 1, none⟩ = some (.string x.name) ∧ w0.cell? ⟨b, off + i * 3 + 2, none⟩ = some (.int .i64 x.scope) := by
              rcases HHI.out with h | h
              · rw [h] at hjl; simp at hjl
              · exact h
            obtain ⟨q0, q1, q2⟩ := hcx j x hx
            have a0 := (hbq.cell (p := ⟨bx, off + j * 3, none⟩) hbx).trans q0
            have a1 := (hbq.cell (p := ⟨bx, off + j * 3 + 1, none⟩) hbx).trans q1
            have a2 := (hbq.cell (p := ⟨bx, off + j * 3 + 2, none⟩) hbx).trans q2
            have HX := Lib.hid hx
            have hbA := (Below.refl wr.heap.size wr).alloc (Nat.le_refl _) (.cells #[.int .i64 x.kind, .string x.name, .int .i64 x.scope] 138)
            have RX := Lib.hid (Row.new wr [.int .i64 x.kind, .string x.name, .int .i64 x.scope] 138)
            have HBA := Lib.hid hbA
            have CS := Lib.hid (countShow_any C x.kind x.scope x.name (wr.alloc (.cells #[.int .i64 x.kind, .string x.name, .int .i64 x.scope] 138)))
            have hci : ∃ zz, zz = x.scope := ⟨_, rfl⟩
            clear q0 q1 q2 hcx hx hbA
            go_wp2_with fail
            refine CS.out.mono ?_
            rintro e w4 ⟨rfl, hb4⟩
            have HA4 := Lib.hid (HBA.out.trans (hb4.mono HBA.out.size))
            have RX4 := Lib.hid (RX.out.below hb4 RX.out.lt)
            have hxl : wr.heap.size < w4.heap.size := RX4.out.lt
            have x2 := RX4.out.cell (i := 2) (v := .int .i64 x.scope) (by rfl)
            have HC4 := Lib.hid (HCQ.out.below HA4.out)
            have HT4 := Lib.hid (HTQ.out.tr (Turns.of_below HA4.out))
            clear hb4 CS a0 a1 a2
            by_cases hm : x.scope = -1
            · have em : (x.scope != -1) = false := by simp [hm]
              have em' : (x.scope == -1) = true := by simp [hm]
              have HC5 : Hid (CtIs w4 C G cp (nx + 1 + (bl.flatMap (orP ss) ++ (modK (xs.take (j + 1))).flatMap (orP ss)).length) (numU (l.set s nx) (nx + 1) (bl.flatMap (orP ss) ++ (modK (xs.take (j + 1))).flatMap (orP ss)))) := Lib.hid (by
                rw [modK_take HX.out, if_pos hm, List.append_nil]
                exact HC4.out)
              go_wp2
              go_roundw
              case rel => exact ⟨j + 1, by go_num, by omega, HC5, HT4⟩
              case measure => simp only [intOf]; omega
            · have em : (x.scope != -1) = true := by simp [hm]
              have em' : (x.scope == -1) = false := by simp [hm]
              obtain ⟨km, hkm, hkk⟩ := HMS.out x (List.mem_of_getElem? HX.out) hm
              have hkt : x.scope.toNat = km := by omega
              rw [hkt] at hkk
              obtain ⟨hcl, dk, hdk, hvis⟩ := HREC.out km hkk
              have hb4 := HTR0.out w4 HT4.out
              have t0 := (hb4.cell (p := ⟨T, 0, none⟩) HTL).trans HT0.out
              have s0 := (hb4.cell (p := ⟨g, km, none⟩) hg).trans (HSL.out km dk hdk)
              unfold Nd.ptr at s0
              have i0 : (0 : Int) ≤ (km : Int) := by omega
              have i1 : (km : Int) < ((ds.length : Nat) : Int) := by omega
              have htk : (modK (xs.take (j + 1))).flatMap (orP ss) = (modK (xs.take j)).flatMap (orP ss) ++ orP ss km := by rw [modK_take HX.out, if_neg hm, List.flatMap_append, hkt]; simp
              have HTK := Lib.hid htk
              have hle := modK_take_le (f := orP ss) xs (j + 1)
              rw [htk, List.length_append] at hle
              have HBD : Hid (nx + 1 + (bl.flatMap (orP ss) ++ (modK (xs.take j)).flatMap (orP ss)).length + (orP ss km).length ≤ 100) := Lib.hid (by
                have h1 := HNX.out
                rw [HOR.out, List.length_cons, List.flatMap_append, List.length_append] at h1
                rw [List.length_append]
                omega)
              rw [hkm] at x2 em em'
              have hS0 : w4.drew.cell? ⟨T, 0, none⟩ = some (.slice (some ⟨g, 0, none⟩) ds.length cap') ∧ w4.drew.cell? ⟨g, km, none⟩ = some (.pointer (some ⟨dk.blk, 0, none⟩)) ∧ w4.drew.cell? ⟨wr.heap.size, 2, none⟩ = some (.int .i64 (km : Int)) := ⟨cell_drew t0, cell_drew s0, cell_drew x2⟩
              have HD4 := Lib.hid ((Below.refl w4.heap.size w4).drew)
              have HS40 := Lib.hid hS0
              have HVV : Hid (∀ W', Below w4.heap.size w4 W' → Calls Tryd.prog 72 #[.pointer (some ⟨T, 0, none⟩), .pointer (some ⟨dk.blk, 0, none⟩), .iface 113 (.pointer (some ⟨C, 0, none⟩))] W' fun e w' => e = .returned (.tuple #[]) ∧ CtIs w' C G cp (nx + 1 + (bl.flatMap (orP ss) ++ (modK (xs.take j)).flatMap (orP ss)).length + (orP ss km).length) (numU (numU (l.set s nx) (nx + 1) (bl.flatMap (orP ss) ++ (modK (xs.take j)).flatMap (orP ss))) (nx + 1 + (bl.flatMap (orP ss) ++ (modK (xs.take j)).flatMap (orP ss)).length) (orP ss km)) ∧ Turns W' w' C G) := Lib.hid fun W' h =>
                hvis W' _ _ (hb4.trans (h.mono hb4.size)) (HC4.out.below h) (by rw [numU_length, List.length_set]; exact HLL.out) HBD.out
              generalize dk.blk = dkb at *
              clear hdk hvis hb4 htk hle s0 t0
              go_wp2
              refine wp_region_kept (S := fun w' => w'.cell? ⟨T, 0, none⟩ = some (.slice (some ⟨g, 0, none⟩) ds.length cap') ∧ w'.cell? ⟨g, km, none⟩ = some (.pointer (some ⟨dkb, 0, none⟩)) ∧ w'.cell? ⟨wr.heap.size, 2, none⟩ = some (.int .i64 (km : Int))) 99 (by kernel_rfl) ?_
              generalize w4.drew = v0 at *
              refine KeptAny.tv (v := ?_) 0 hS0 (fun w' hw' => ?_) ?_
              rotate_left
              · (obtain ⟨g0, g1, g2⟩ := hw'; go_simp; try with_reducible rfl)
              refine KeptAny.tv (v := ?_) 1 hS0 (fun w' hw' => ?_) ?_
              rotate_left
              · (obtain ⟨g0, g1, g2⟩ := hw'; go_simp; try with_reducible rfl)
              refine KeptAny.tv (v := ?_) 2 hS0 (fun w' hw' => ?_) ?_
              rotate_left
              · (obtain ⟨g0, g1, g2⟩ := hw'; go_simp; try with_reducible rfl)
              refine KeptAny.tv (v := ?_) 3 hS0 (fun w' hw' => ?_) ?_
              rotate_left
              · (obtain ⟨g0, g1, g2⟩ := hw'; go_simp; try with_reducible rfl)
              refine KeptAny.tv (v := ?_) 4 hS0 (fun w' hw' => ?_) ?_
              rotate_left
              · (obtain ⟨g0, g1, g2⟩ := hw'; go_simp; try with_reducible rfl)
              refine KeptAny.tv (v := ?_) 5 hS0 (fun w' hw' => ?_) ?_
              rotate_left
              · (obtain ⟨g0, g1, g2⟩ := hw'; go_simp; try with_reducible rfl)
              refine KeptAny.tv (v := ?_) 6 hS0 (fun w' hw' => ?_) ?_
              rotate_left
              · (obtain ⟨g0, g1, g2⟩ := hw'; go_simp; try with_reducible rfl)
              refine KeptAny.tv (v := ?_) 7 hS0 (fun w' hw' => ?_) ?_
              rotate_left
              · (obtain ⟨g0, g1, g2⟩ := hw'; go_simp; try with_reducible rfl)
              refine KeptAny.tv (v := ?_) 8 hS0 (fun w' hw' => ?_) ?_
              rotate_left
              · (obtain ⟨g0, g1, g2⟩ := hw'; go_simp; try with_reducible rfl)
              refine KeptAny.tv (v := ?_) 9 hS0 (fun w' hw' => ?_) ?_
              rotate_left
              · (obtain ⟨g0, g1, g2⟩ := hw'; go_simp; try with_reducible rfl)
              clear hS0
              refine KeptAny.one (i := 10) (by kernel_rfl) rfl (by kernel_rfl) (fun KF hKF => ?_)
              go_simp
              refine ⟨trivial, ?_⟩
              refine ((callsIn_wide (n := 5)).2 (HVV.out v0 HD4.out)).mono ?_
              rintro e w5 ⟨rfl, hc5, ht5⟩
              have HX5 := Lib.hid (HD4.out)
              have ne1 : T ≠ C := by omega
              have hCw : C < wr.heap.size := HCQ.out.box.lt
              have hGw : G < wr.heap.size := HCQ.out.row.lt
              refine hKF.out _ _ ⟨(World.cell?_of_block (a := ⟨T, 0, none⟩) (ht5.rest T (World.block_lt_of_cell? _ _ HS40.out.1) (by omega) (by omega))).trans HS40.out.1, (World.cell?_of_block (a := ⟨g, km, none⟩) (ht5.rest g (World.block_lt_of_cell? _ _ HS40.out.2.1) (by omega) (by omega))).trans HS40.out.2.1, (World.cell?_of_block (a := ⟨wr.heap.size, 2, none⟩) (ht5.rest wr.heap.size (World.block_lt_of_cell? _ _ HS40.out.2.2) (by omega) (by omega))).trans HS40.out.2.2⟩ (fun _ => ?_)
              clear hKF
              have HC6 : Hid (CtIs w5 C G cp (nx + 1 + (bl.flatMap (orP ss) ++ (modK (xs.take (j + 1))).flatMap (orP ss)).length) (numU (l.set s nx) (nx + 1) (bl.flatMap (orP ss) ++ (modK (xs.take (j + 1))).flatMap (orP ss)))) := Lib.hid (by
                rw [HTK.out, ← List.append_assoc, List.length_append, numU_append, ← Nat.add_assoc]
                exact hc5)
              have HT6 := Lib.hid ((HT4.out.tr (Turns.of_below HD4.out)).tr ht5)
              clear hc5 ht5 HVV
              refine KeptAny.done (by kernel_rfl) ?_ _
              go_wp2
              go_roundw
              case rel => exact ⟨j + 1, by go_num, by omega, HC6, HT6⟩
              case measure => simp only [intOf]; omega
          · obtain rfl : j = xs.length := by omega
            have CE := Lib.hid (countEnd_any C db wr)
            have HCF : Hid (CtIs wr C G cp (nx + (orP ss s).length) (numU l nx (orP ss s))) := Lib.hid (by
              have h := HCQ.out
              rw [List.take_length, ← List.flatMap_append] at h
              rw [HOR.out, List.length_cons, numU, show nx + ((List.flatMap (orP ss) (bl ++ modK xs)).length + 1) = nx + 1 + (List.flatMap (orP ss) (bl ++ modK xs)).length by omega]
              exact h)
            clear hbq hjl
            go_wp2_with fail
            refine CE.out.mono ?_
            rintro e w6 ⟨rfl, hb6⟩
            have HC7 := Lib.hid (HCF.out.below hb6)
            have HT7 := Lib.hid (HTQ.out.tr (Turns.of_below hb6))
            clear hb6 CE
            go_wp2
            go_end0
            exact ⟨rfl, HC7.out, HT7.out⟩
end Go.Proofs.YtifjljkbfabifaaDoor
