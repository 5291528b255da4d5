/-
  The walk of impl's (*resolution).sameTable, and what two graphs of one shape mean. Conditions: two resolutions lie in memory; the items of the one stand in the other.
-/
import Derived.Test.YtdmaaneilfjfcaaGreatDoorJE
import Derived.Test.YtdmaaneilfjfcaaGreatDoorWShape
import Derived.Maps.RangeWalk
namespace Go.Proofs.YtdmaaneilfjfcaaGreatDoor
open Go Go.RowKit Go.Maps
theorem SameSh.sub {ss tt : List Sc} (h : ss.map shS = tt.map shS) : ∀ i j x, (i, j, x) ∈ placed 0 ss → ∃ y, (i, j, y) ∈ placed 0 tt := by
  intro i j x hq
  obtain ⟨s, hs, hx⟩ := placed_at hq
  dsimp only at hs hx
  have h1 : (ss.map shS)[i]? = (tt.map shS)[i]? := by rw [h]
  rw [List.getElem?_map, List.getElem?_map, hs] at h1
  cases ht : tt[i]? with
  | none => rw [ht] at h1; cases h1
  | some c =>
    rw [ht] at h1
    have h2 := (Prod.mk.inj (Option.some.inj h1)).2
    have h3 : (s.items.map shI)[j]? = (c.items.map shI)[j]? := by rw [h2]
    rw [List.getElem?_map, List.getElem?_map, hx] at h3
    cases hy : c.items[j]? with
    | none => rw [hy] at h3; cases h3
    | some y => exact ⟨y, placed_of ht hy⟩
theorem ranges_same {w w' : World} {k : TypeId} {R : Value → Option (DataW Unit × List MemPlace)} {b r n cnt : Nat} {D : DataW Unit} {left : Lit → Bool} (h : w.ranges Tryz.prog k R b r n D left cnt) (h1 : w'.heap[b]? = w.heap[b]?) (h2 : w'.heap[r]? = w.heap[r]?) : w'.ranges Tryz.prog k R b r n D left cnt := by
  unfold World.ranges at *
  rw [h1, h2]
  exact h
/-- The step of a range over what all items mean. -/
theorem wpList_next_means {ss : List Sc} {B MR r cnt : Nat} {l : List Ent} {left : Lit → Bool} {w w0 : World} {ops : Array Oper} {rest : List Oper} {o : Oper} {a : Act} {Q : Exit → Act → World → Prop} (hv : Valid ss) (hf : l.map Prod.fst = placed 0 ss) (hl : ∀ e ∈ l, w0.ownsRow B 32 2 e.2 (meanIt ss e.1).length (placeCells (meanIt ss e.1)))
    (hg : o.guard = none) (it : Operand) (hop : o.op = Op.next it false) (hit : a.eval it = .pointer (some ⟨r, 0, none⟩)) (h : w.ranges Tryz.prog 32 sliceR MR r l.length (entsD l) left cnt)
    (hDone : (∀ kl, left kl = false) → wpList Tryz.prog ops Q rest (a.put o.dst (.tuple #[.bool false])) w)
    (hMore : ∀ (i j : Nat) (x : It) (oa : Option Addr) (c : Nat) (w' : World) (cnt' : Nat), ((i, j, x), Value.slice oa (meanIt ss (i, j, x)).length c) ∈ l → w'.ranges Tryz.prog 32 sliceR MR r l.length (entsD l) (fun z => left z && !z.sameKey (plLit (i : Int) (j : Int))) cnt' → cnt' < cnt →
      w.grownBy w' (some r) → w'.heap.size = w.heap.size → (Instr.entry (.pointer (some ⟨r, 0, none⟩))).run Tryz.prog w' = .ok (.tuple #[.agg #[.int .i64 (i : Int), .int .i64 (j : Int)], .slice oa (meanIt ss (i, j, x)).length c]) w' →
      wpList Tryz.prog ops Q rest (a.put o.dst (.tuple #[.bool true, .agg #[.int .i64 (i : Int), .int .i64 (j : Int)], .slice oa (meanIt ss (i, j, x)).length c])) w') :
    wpList Tryz.prog ops Q (o :: rest) a w := by
  refine wpList_next_ranges w hg it hop 32 placeLaw sliceR (fun v : Value => v) (fun v : Value => v) (fun key kl _ => ⟨key, rfl⟩) (fun v y _ => ⟨v, rfl⟩) MR r l.length (entsD l) left cnt hit h (fun _ hz => hDone hz) ?_
  rintro x c kl ⟨y, ps⟩ w' cnt' hkey hlk hv' hat hrg hlt hgr hsz hen
  have hin : ∃ e ∈ l, entKey e = kl := Classical.byContradiction fun hno => by
    have hz : ∀ z, y = z := fun z => by
      refine (hat z).symm.trans ?_
      have h1 := putInto_other entKey entVal kl z l (.map []) (fun e he hk => hno ⟨e, he, hk⟩)
      exact h1.trans (by simp [DataW.atKey])
    have h2 := hz (.map [])
    have h3 := hz (.lit (.bool true))
    rw [h2] at h3
    cases h3
  obtain ⟨⟨⟨i, j, x0⟩, u⟩, he, hk⟩ := hin
  have hq : (i, j, x0) ∈ placed 0 ss := hf ▸ List.mem_map_of_mem (f := Prod.fst) he
  have hsm := hv.small.lt hq
  dsimp only at hsm
  have hkk := pl_key (wf_small hsm.1) (wf_small hsm.2)
  have ek : plLit (i : Int) (j : Int) = kl := hk
  rw [ek] at hkk
  have hxx := placeLaw.inj hkey hkk
  have e0 := putInto_at entKey entVal entKey_is (.map []) l (.map []) nilMap (by rw [entKeys, hf]; exact plKey_apart hv.small) _ he
  rw [hk] at e0
  have e1 : sliceD u = y := e0.symm.trans (hat _)
  have hown := hl _ he
  dsimp only at hown hxx hv'
  rw [← e1] at hv'
  have hcu := sliceR_eq (sliceR_own hown) hv'
  obtain ⟨o', c', rfl⟩ := ownsRow_slice hown
  subst hcu
  subst hxx
  subst ek
  exact hMore i j x0 o' c' w' cnt' he hrg hlt hgr hsz hen
set_option maxRecDepth 100000 in
set_option maxHeartbeats 8000000 in
theorem sameTable_any {ss tt : List Sc} (hv : Valid ss) (hv2 : Valid tt) (hsub : ∀ i j x, (i, j, x) ∈ placed 0 ss → ∃ y, (i, j, y) ∈ placed 0 tt) {w : World} {B R T M1 M2 MR : Nat} {v : Value} {ds : List Nd} {l : List Ent} (hR : ResW w B R T M1 M2 MR v ds ss l)
    {B' R' T' M1' M2' MR' : Nat} {v' : Value} {ds' : List Nd} {l' : List Ent} (hS : ResW w B' R' T' M1' M2' MR' v' ds' tt l') :
    Calls Tryz.prog 85 #[.pointer (some ⟨R, 0, none⟩), .pointer (some ⟨R', 0, none⟩)] w fun e w' => ∃ b : Bool, e = .returned (.bool b) ∧ (b = true ↔ chgA ss tt = []) ∧ Below w.heap.size w w' := by
  have r1 := hR.box.cell (i := 1) (v := .map (some MR)) (by rfl)
  have HV := Lib.hid (And.intro hv hv2)
  have HR := Lib.hid hR
  have HS := Lib.hid hS
  have HSUB := Lib.hid hsub
  clear hv hv2 hR hS hsub
  go_enter Tryz.func85, Tryz.ntmps85
  go_wp2_with (first
    | (at_range; refine wpList_range_own _ rfl _ 103 rfl 32 28 placeLaw Tryz.underlying103 sliceR MR l.length (entsD l) rfl HR.out.mean.map ?_; intro w0 hrg0 hg0 hs0)
    | go_in)
  go_frame
  have HW0 : Hid (Below w.heap.size w w0) := Lib.hid (below_of_grown hg0 (Nat.le_refl _) (fun g e => by cases e))
  clear hg0
  go_loopw [12] (fun _ wr => ∃ (left : Lit → Bool) (cnt : Nat), wr.ranges Tryz.prog 32 sliceR MR w.heap.size l.length (entsD l) left cnt ∧ Hid (∀ e ∈ l, left (entKey e) = false → meanIt ss e.1 = meanAt tt (e.1.1 : Int) (e.1.2.1 : Int)) ∧ Hid (Below w.heap.size w wr)) (fun _ wr => wr.rangeLeft MR w.heap.size)
  case atStart => exact ⟨_, _, hrg0, Lib.hid (fun e he hn => by
    have h1 := (putInto_has entKey entVal entKey_is (entKey e) l (.map []) nilMap).2 (.inr ⟨e, he, rfl⟩)
    exact absurd (show Maps.has (entsD l) (entKey e) = true from h1) (by rw [hn]; decide)), HW0⟩
  case round =>
    obtain ⟨left, cnt, hrg, HP, HW⟩ := hrel
    go_wp2_with (first
      | (at_next; refine wpList_next_means HV.out.1 HR.out.full HR.out.mean.lists rfl _ rfl rfl hrg ?_ ?_)
      | go_in)
    · intro hl0
      have HE : Hid (chgA ss tt = []) := Lib.hid (by
        unfold chgA filtL
        rw [List.map_eq_nil_iff, List.filter_eq_nil_iff]
        intro q hq
        rw [← HR.out.full] at hq
        obtain ⟨e, he, rfl⟩ := List.mem_map.1 hq
        simp only [HP.out e he (hl0 _), decide_true, Bool.not_true]
        decide)
      go_wp2
      go_ret
      exact ⟨true, rfl, ⟨fun _ => HE.out, fun _ => rfl⟩, HW.out⟩
    · intro i j x oa c w1 cnt1 he hrg1 hlt hg1 hs1 hen
      have HW1 := Lib.hid (HW.out.trans (below_of_grown hg1 HW.out.size (fun g e => by cases e; exact Nat.le_refl _)))
      have hq : (i, j, x) ∈ placed 0 ss := HR.out.full ▸ List.mem_map_of_mem (f := Prod.fst) he
      obtain ⟨y, hy⟩ := HSUB.out i j x hq
      obtain ⟨u2, hfix, hown2⟩ := mean_fix HV.out.2 HS.out.mean HS.out.full hy
      obtain ⟨o2, c2, rfl, harg2⟩ := argPlaces_of_owns hown2
      obtain ⟨o1, c1, he1, harg1⟩ := argPlaces_of_owns (HR.out.mean.lists _ he)
      dsimp only at he1
      simp only [Value.slice.injEq] at he1
      obtain ⟨rfl, -, rfl⟩ := he1
      have HMA : Hid (meanAt tt (i : Int) (j : Int) = meanIt tt (i, j, y)) := Lib.hid (meanAt_of hy)
      have HL1 : Hid ((meanIt ss (i, j, x)).length ≤ 25 ∧ (meanIt tt (i, j, y)).length ≤ 25) := Lib.hid ⟨meanIt_length HV.out.1 _, meanIt_length HV.out.2 _⟩
      have HQ : Hid ((i, j, x) ∈ placed 0 ss) := Lib.hid hq
      have HBAD : Hid (meanIt ss (i, j, x) ≠ meanIt tt (i, j, y) → ¬ chgA ss tt = []) := Lib.hid (fun hne hnil => by
        unfold chgA filtL at hnil
        rw [List.map_eq_nil_iff, List.filter_eq_nil_iff] at hnil
        have h1 := hnil _ HQ.out
        dsimp only at h1
        rw [HMA.out, decide_eq_false hne] at h1
        exact h1 rfl)
      have HST : Hid (meanIt ss (i, j, x) = meanIt tt (i, j, y) → ∀ e ∈ l, (left (entKey e) && !(entKey e).sameKey (plLit (i : Int) (j : Int))) = false → meanIt ss e.1 = meanAt tt (e.1.1 : Int) (e.1.2.1 : Int)) := Lib.hid (fun heq e hel hle => by
        cases hlf : left (entKey e) with
        | false => exact HP.out e hel hlf
        | true =>
          rw [hlf] at hle
          have h1 : (entKey e).sameKey (plLit (i : Int) (j : Int)) = true := by simpa using hle
          have h2 := WideAt.sameKey_eq h1
          have hq2 : e.1 ∈ placed 0 ss := HR.out.full ▸ List.mem_map_of_mem (f := Prod.fst) hel
          have hs1 := HV.out.1.small.lt hq2
          have hs2 := HV.out.1.small.lt HQ.out
          dsimp only at hs2
          obtain ⟨h3, h4⟩ := plLit_inj (wf_small hs1.1) (wf_small hs1.2) (wf_small hs2.1) (wf_small hs2.2) h2
          obtain ⟨⟨i', j', x'⟩, u'⟩ := e
          dsimp only at h3 h4 hq2 ⊢
          obtain rfl : i' = i := by omega
          obtain rfl : j' = j := by omega
          have h6 := placed_item HQ.out
          have h7 := placed_item hq2
          dsimp only at h6 h7
          rw [h7] at h6
          obtain rfl := Option.some.inj h6
          rw [HMA.out]
          exact heq)
      have hbA := (Below.refl w1.heap.size w1).alloc (Nat.le_refl _) (.cells #[.int .i64 (i : Int), .int .i64 (j : Int)] 32)
      have RK := Row.new w1 [.int .i64 (i : Int), .int .i64 (j : Int)] 32
      have HA := Lib.hid (HW1.out.trans (hbA.mono HW1.out.size))
      have r2 := (HS.out.below HA.out).box.cell (i := 1) (v := .map (some MR')) (by rfl)
      have k0 := RK.cell (i := 0) (v := .int .i64 (i : Int)) (by rfl)
      have k1 := RK.cell (i := 1) (v := .int .i64 (j : Int)) (by rfl)
      have HRG := Lib.hid (hrg1.alloc (.cells #[.int .i64 (i : Int), .int .i64 (j : Int)] 32))
      have hMR' : MR' < w.heap.size := HS.out.mean.map.lt
      have HFIX : Hid (∀ w' : World, Below w.heap.size w w' → (Instr.lookup 103 (.map (some MR')) (.agg #[.int .i64 (i : Int), .int .i64 (j : Int)]) false).run Tryz.prog w' = .ok (.slice o2 (meanIt tt (i, j, y)).length c2) w') := Lib.hid (fun w' hb => hfix w' (hb.block _ hMR'))
      have HARG := Lib.hid (And.intro harg1 harg2)
      have HCN := Lib.hid hlt
      clear he hq hy hown2 harg1 harg2 hfix hbA RK hrg1 hg1 hs1 hMR' hlt
      generalize meanIt ss (i, j, x) = ml at *
      generalize meanIt tt (i, j, y) = ml2 at *
      obtain ⟨q, hqq⟩ : ∃ q, decide (ml = ml2) = q := ⟨_, rfl⟩
      have HQD := Lib.hid hqq
      clear hqq
      go_wp2
      generalize w1.alloc (.cells #[.int .i64 (i : Int), .int .i64 (j : Int)] 32) = wA at *
      go_cut [25] (fun s wx => s = .bool (!q) ∧ Below wA.heap.size wA wx)
      case first =>
        refine wp_region_kept (S := fun w' => w'.cell? ⟨R', 1, none⟩ = some (.map (some MR')) ∧ w'.cell? ⟨w1.heap.size, 0, none⟩ = some (.int .i64 (i : Int)) ∧ w'.cell? ⟨w1.heap.size, 1, none⟩ = some (.int .i64 (j : Int)) ∧ (Instr.lookup 103 (.map (some MR')) (.agg #[.int .i64 (i : Int), .int .i64 (j : Int)]) false).run Tryz.prog w' = .ok (.slice o2 ml2.length c2) w') 20 (by kernel_rfl) ?_
        have hS0 := And.intro (cell_drew r2) (And.intro (cell_drew k0) (And.intro (cell_drew k1) (HFIX.out _ HA.out.drew)))
        refine KeptAny.take (i := 0) (v := ?_) (by kernel_rfl) rfl rfl (by kernel_rfl) (by kernel_rfl) (by kernel_rfl) (fun _ _ _ h => h) (by rfl) (fun w' hw' => ?_) (fun _ => rfl) hS0 ?_
        rotate_left
        · (obtain ⟨g0, g1, g2, g3⟩ := hw'; go_simp; try with_reducible rfl)
        refine KeptAny.take (i := 1) (v := ?_) (by kernel_rfl) rfl rfl (by kernel_rfl) (by kernel_rfl) (by kernel_rfl) (fun _ _ _ h => h) (by rfl) (fun w' hw' => ?_) (fun _ => rfl) hS0 ?_
        rotate_left
        · (obtain ⟨g0, g1, g2, g3⟩ := hw'; go_simp; try with_reducible rfl)
        refine KeptAny.take (i := 2) (v := ?_) (by kernel_rfl) rfl rfl (by kernel_rfl) (by kernel_rfl) (by kernel_rfl) (fun _ _ _ h => h) (by rfl) (fun w' hw' => ?_) (fun _ => rfl) hS0 ?_
        rotate_left
        · (obtain ⟨g0, g1, g2, g3⟩ := hw'; go_simp; try with_reducible rfl)
        refine KeptAny.take (i := 3) (v := ?_) (by kernel_rfl) rfl rfl (by kernel_rfl) (by kernel_rfl) (by kernel_rfl) (fun _ _ _ h => h) (by rfl) (fun w' hw' => ?_) (fun _ => rfl) hS0 ?_
        rotate_left
        · (obtain ⟨g0, g1, g2, g3⟩ := hw'; go_simp; try with_reducible rfl)
        refine KeptAny.take (i := 4) (v := ?_) (by kernel_rfl) rfl rfl (by kernel_rfl) (by kernel_rfl) (by kernel_rfl) (fun _ _ _ h => h) (by rfl) (fun w' hw' => ?_) (fun _ => rfl) hS0 ?_
        rotate_left
        · (obtain ⟨g0, g1, g2, g3⟩ := hw'; go_simp; try with_reducible rfl)
        refine KeptAny.take (i := 5) (v := ?_) (by kernel_rfl) rfl rfl (by kernel_rfl) (by kernel_rfl) (by kernel_rfl) (fun _ _ _ h => h) (by rfl) (fun w' hw' => ?_) (fun _ => rfl) hS0 ?_
        rotate_left
        · (obtain ⟨g0, g1, g2, g3⟩ := hw'; go_simp; try with_reducible rfl)
        refine KeptAny.take (i := 6) (v := ?_) (by kernel_rfl) rfl rfl (by kernel_rfl) (by kernel_rfl) (by kernel_rfl) (fun _ _ _ h => h) (by rfl) (fun w' hw' => ?_) (fun _ => rfl) hS0 ?_
        rotate_left
        · (obtain ⟨g0, g1, g2, g3⟩ := hw'; go_simp; try with_reducible rfl)
        have HD0 : Hid (Below wA.heap.size wA wA.drew) := Lib.hid ((Below.refl _ _).drew)
        have HS0 := Lib.hid hS0
        clear hS0 r2 k0 k1
        refine KeptAny.one (i := 7) (by kernel_rfl) rfl (by rfl) (fun K hK => ?_)
        go_simp
        refine ⟨trivial, ?_⟩
        refine ((callsIn_wide (n := 5)).2 (equalPl_any ml ml2 oa o2 c c2 _ (by have := HL1.out.1; omega) (by have := HL1.out.2; omega) (HARG.out.1.below (HA.out.trans (HD0.out.mono HA.out.size))) (HARG.out.2.below (HA.out.trans (HD0.out.mono HA.out.size))))).mono ?_
        rintro e wc ⟨rfl, hb⟩
        rw [HQD.out]
        have HD1 := Lib.hid (HD0.out.trans (hb.mono HD0.out.size))
        have HS1 := Lib.hid (And.intro (cell_grow hb HS0.out.1) (And.intro (cell_grow hb HS0.out.2.1) (And.intro (cell_grow hb HS0.out.2.2.1) (HFIX.out _ (HA.out.trans (HD1.out.mono HA.out.size))))))
        clear hb
        refine hK.out _ _ HS1.out (fun _ => ?_)
        clear hK
        refine KeptAny.one (i := 8) (by kernel_rfl) rfl (by rfl) (fun K hK => ?_)
        go_simp
        refine hK.out _ _ HS1.out (fun _ => ?_)
        clear hK
        refine KeptAny.done (by kernel_rfl) ?_ _
        go_wp2
        go_meet
        exact ⟨rfl, HD1.out⟩
      case rest =>
        obtain ⟨rfl, hbc⟩ := hcut
        have HB5 := Lib.hid (HA.out.trans (hbc.mono HA.out.size))
        have HR5 := Lib.hid (ranges_same HRG.out (hbc.block _ HRG.out.owns.lt) (hbc.block _ HRG.out.lt))
        clear hbc r2 k0 k1
        cases q
        · have HN := Lib.hid (HBAD.out (of_decide_eq_false HQD.out))
          go_wp2
          go_ret
          exact ⟨false, rfl, ⟨fun h => (by cases h), fun h => absurd h HN.out⟩, HB5.out⟩
        · have HN := Lib.hid (HST.out (of_decide_eq_true HQD.out))
          go_wp2
          go_roundw
          case rel => exact ⟨_, cnt1, HR5.out, HN, HB5⟩
          case measure => rw [HR5.out.left_eq, hrg.left_eq]; exact HCN.out
end Go.Proofs.YtdmaaneilfjfcaaGreatDoor
