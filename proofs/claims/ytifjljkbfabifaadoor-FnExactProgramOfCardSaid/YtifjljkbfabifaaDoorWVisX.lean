/-
  The walk of a visit of a scope by impl's writer, and of ProgramOf: the program of the scope is written. Conditions: the tree lies in memory, the writer behind it. (genvisx.py writes this text.)
-/
import Derived.Test.YtifjljkbfabifaaDoorWVisW
namespace Go.Proofs.YtifjljkbfabifaaDoor
open Go Go.RowKit Go.Maps
/-- A list of numbers with the block that holds it. -/
def ListRow (w : World) (oa : Option Addr) (l : List Nat) : Prop := ∀ i k : Nat, l[i]? = some k → ∃ (g : Nat) (cur : Array Value), oa = some ⟨g, 0, none⟩ ∧ w.heap[g]? = some (.cells cur 3 (0, 0)) ∧ w.cell? ⟨g, i, none⟩ = some (.int .i64 (k : Int))
theorem listRow_of_owns {w : World} {B : Nat} {v : Value} {l : List Nat} (h : w.ownsRow B 3 1 v l.length (numVals l)) : ∃ oa cap, v = .slice oa l.length cap ∧ ListRow w oa l := by
  obtain ⟨oa, cap, hv, hl⟩ := listAt_of_owns h
  refine ⟨oa, cap, hv, fun i k hk => ?_⟩
  obtain ⟨g, h1, h2, h3⟩ := hl i k hk
  obtain ⟨_, h4 | ⟨g', cap', cur, hv', hB, hh, _⟩⟩ := h
  · rw [h4.1] at hv
    injection hv with e1 _ _
    rw [h1] at e1
    cases e1
  · rw [hv'] at hv
    injection hv with e1 _ _
    rw [h1] at e1
    injection e1 with e2
    injection e2 with e3
    subst e3
    exact ⟨g', cur, h1, hh, h3⟩
theorem ListRow.left {w w' : World} {B X : Nat} {oa : Option Addr} {l : List Nat} {p v : Value} (h : ListRow w oa l) (hx : Row w X 102 [p, v]) (hl : WrLeft B X w w') : ListRow w' oa l := fun i k hk => by
  obtain ⟨g, cur, h1, h2, h3⟩ := h i k hk
  have hne : g ≠ X := by
    rintro rfl
    unfold Row at hx
    rw [h2] at hx
    injection hx with e
    injection e with _ e2 _
    exact absurd e2 (by decide)
  have hb : w'.heap[g]? = w.heap[g]? := (hl.others g _ h2 (by simpa using hne) (fun c fz e => by injection e with _ e2 _; exact absurd e2 (by decide))).trans h2.symm
  exact ⟨g, cur, h1, hb.trans h2, (World.cell?_of_block (a := ⟨g, i, none⟩) hb).trans h3⟩
theorem WrIs.row {w : World} {B X : Nat} {bs : List UInt8} (h : WrIs w B X bs) : ∃ p v, Row w X 102 [p, v] := by
  obtain ⟨p, v, _, h2, _⟩ := h.box
  exact ⟨p, v, h2⟩
/-- What a visit writes. -/
def vtx (ss : List Sc) (par : Option Addr) (s : Nat) : List UInt8 := brk par 123 ++ (wrP ss s ++ brk par 125)
def VisitW (ss : List Sc) (w0 : World) (T X s blk : Nat) (par : Option Addr) : Prop := ∀ (w : World) (bs : List UInt8), Below w0.heap.size w0 w → WrIs w w0.heap.size X bs → bs.length + (vtx ss par s).length ≤ 900 →
    Calls Tryd.prog 72 #[.pointer (some ⟨T, 0, none⟩), .pointer (some ⟨blk, 0, none⟩), .iface 109 (.pointer (some ⟨X, 0, none⟩))] w fun e w' => e = .returned (.tuple #[]) ∧ WrIs w' w0.heap.size X (bs ++ vtx ss par s) ∧ WrLeft w0.heap.size X w w'
theorem WrLeft.of_below {B X : Nat} {w w' : World} (h : Below w.heap.size w w') (hB : B ≤ w.heap.size) : WrLeft B X w w' := ⟨h.mono hB, fun k _ hk _ _ => (h.block k (Array.getElem?_eq_some_iff.1 hk).1).trans hk⟩
set_option maxRecDepth 100000 in
set_option maxHeartbeats 8000000 in
theorem visitW_step {ss : List Sc} (hv : Valid ss) {w0 : World} {B T M1 M2 : Nat} {v : Value} {ds : List Nd} (hT : TreeIs w0 B T M1 M2 v ds ss) {X : Nat} (s : Nat) (d : Nd) (hd : ds[s]? = some d) (hrec : ∀ k ∈ kidsP ss s, ∃ dk pa, ds[k]? = some dk ∧ VisitW ss w0 T X k dk.blk (some pa)) : VisitW ss w0 T X s d.blk d.par := by
    intro w bs hb hc hnx
    have hdl := hT.hold.len
    have hs : s < ss.length := by have := (List.getElem?_eq_some_iff.1 hd).1; omega
    have HREC : Hid (∀ k ∈ kidsP ss s, k < ds.length ∧ ∃ dk pa, ds[k]? = some dk ∧ VisitW ss w0 T X k dk.blk (some pa)) := Lib.hid fun k hk => by
      obtain ⟨dk, pa, h1, h2⟩ := hrec k hk
      exact ⟨(List.getElem?_eq_some_iff.1 h1).1, dk, pa, h1, h2⟩
    have HWR := Lib.hid (wr_eq hv hs)
    obtain ⟨c, hcs⟩ : ∃ c, ss[s]? = some c := ⟨_, List.getElem?_eq_getElem hs⟩
    have HXS := Lib.hid (itemsAt_of hcs)
    have HMS : Hid (∀ x ∈ itemsAt ss s, x.name.size = 1 ∧ (x.scope ≠ -1 → ∃ k : Nat, x.scope = (k : Int) ∧ x.scope.toNat ∈ kidsP ss s)) := Lib.hid fun x hx => ⟨by
      obtain ⟨b, hb, _⟩ := item_name hv hx
      rw [size_list, hb]
      rfl, fun hm => by
      obtain ⟨_, k, h1, _⟩ := mod_spec hv hx hm
      exact ⟨k, h1, mods_kids hx hm⟩⟩
    have h5 := items_five hv s
    obtain ⟨oi, ci, hdi, hhi⟩ := hT.hold.items s d c hd hcs
    have HHI := Lib.hid hhi
    obtain ⟨g, cap', hvv, hgB, hg, hslot⟩ := hT.tree.slot (hT.ne hv)
    have HSL := Lib.hid hslot
    have HT0 := Lib.hid (hT.tree.box.cell (i := 0) (v := v) (by rfl))
    have HTL := hT.tree.box.lt
    have nd := (hT.tree.node s d hd).2
    have HND : Hid (Row w0 d.blk 166 [.int .i64 (s : Int), .pointer d.par, d.items]) := Lib.hid nd
    have HN2 := Lib.hid (nd.cell (i := 2) (v := d.items) (by rfl))
    have HNL := nd.lt
    rw [hdi] at HN2 HND
    rw [hvv] at HT0
    have HB := Lib.hid hb
    have HNX := Lib.hid hnx
    have C2' : Hid (∀ w1, Below w0.heap.size w0 w1 → Calls Tryd.prog 82 #[.pointer (some ⟨T, 0, none⟩), .pointer (some ⟨d.blk, 0, none⟩)] w1 fun e w' => ∃ u, e = .returned u ∧ w'.ownsRow w1.heap.size 3 1 u (blocksP ss s).length (numVals (blocksP ss s)) ∧ Below w1.heap.size w1 w') := Lib.hid fun w1 h1 => blocks_any hv (hT.below h1) hd
    have HTR0 : Hid (∀ w1, WrLeft w0.heap.size X w w1 → Below w0.heap.size w0 w1) := Lib.hid fun w1 h => hb.trans h.below
    have hbl6 : (blocksP ss s).length ≤ 100 := by
      have h1 := List.length_filter_le (fun k => decide (parP ss k = some s) && (moduleP ss (k : Int)).isNone) (List.range ss.length)
      rw [List.length_range] at h1
      have h2 := hv.count.2
      unfold blocksP
      omega
    have hvl : bs.length + (brk d.par 123).length + (wrBl (wrP ss) (blocksP ss s)).length + (wrIt (wrP ss) (itemsAt ss s)).length + (brk d.par 125).length ≤ 900 := by
      unfold vtx at hnx
      rw [wr_eq hv hs] at hnx
      simp only [List.length_append] at hnx
      omega
    have HVL := Lib.hid hvl
    have hbs9 : bs.length ≤ 1000 := by omega
    have C1 := Lib.hid (wrBegin_any hc hbs9 (HND.out.below hb nd.lt))
    clear hdl hs hcs hhi hdi hvv hslot nd hc hb hnx hv hT hd hrec hvl
    unfold kidsP at HREC HMS
    rw [HXS.out] at HREC HMS h5 HVL HWR
    generalize blocksP ss s = bl at *
    generalize c.items = xs at *
    generalize d.blk = db at *
    generalize d.par = par at *
    have hm1 : ∀ w, (method 392 109 (.pointer (some ⟨X, 0, none⟩)) "loop.example/scopegraphs/impl.begin").run Tryd.prog w = .ok (200, .pointer (some ⟨X, 0, none⟩)) w := fun _ => by kernel_rfl
    have hm2 : ∀ w, (method 392 109 (.pointer (some ⟨X, 0, none⟩)) "loop.example/scopegraphs/impl.show").run Tryd.prog w = .ok (202, .pointer (some ⟨X, 0, none⟩)) w := fun _ => by kernel_rfl
    have hm3 : ∀ w, (method 392 109 (.pointer (some ⟨X, 0, none⟩)) "loop.example/scopegraphs/impl.end").run Tryd.prog w = .ok (201, .pointer (some ⟨X, 0, none⟩)) w := fun _ => by kernel_rfl
    obtain ⟨b1, hb1⟩ : ∃ b1, bs ++ brk par 123 = b1 := ⟨_, rfl⟩
    have HB1E := Lib.hid hb1
    have HB1L : Hid (b1.length + (wrBl (wrP ss) bl).length + (wrIt (wrP ss) xs).length + (brk par 125).length ≤ 900) := Lib.hid (by rw [← hb1, List.length_append]; have := HVL.out; omega)
    rw [hb1] at C1
    clear hb1
    go_enter Tryd.func72, Tryd.ntmps72
    go_wp2_with fail
    refine C1.out.mono ?_
    rintro e w1 ⟨rfl, hc1, ht1⟩
    have C2 := Lib.hid (C2'.out w1 (HTR0.out w1 ht1))
    have HT1 := Lib.hid ht1
    have HC1 := Lib.hid hc1
    have hX1 : X < w1.heap.size := by obtain ⟨_, _, h⟩ := hc1.row; exact h.lt
    have hB1 : w0.heap.size ≤ w1.heap.size := (HTR0.out w1 ht1).size
    clear C1 hm1 ht1 hc1
    go_wp2_with fail
    refine C2.out.mono ?_
    rintro e w2 ⟨u, rfl, hrow, hb2⟩
    obtain ⟨ol, cl, rfl, hla⟩ := listRow_of_owns hrow
    have HLA := Lib.hid hla
    have HT2 : Hid (WrLeft w0.heap.size X w w2) := Lib.hid (HT1.out.trans (WrLeft.of_below hb2 hB1))
    have HC2 := Lib.hid (HC1.out.keep hb2)
    clear hrow hla hb2 C2 C2'
    go_wp2
    go_loopw [17] (fun i wr => ∃ k : Nat, i = .int .i64 k ∧ k ≤ bl.length ∧ Hid (WrIs wr w0.heap.size X (b1 ++ wrBl (wrP ss) (bl.take k))) ∧ Hid (WrLeft w0.heap.size X w wr) ∧ Hid (ListRow wr ol bl)) (fun i _ => bl.length - (intOf i).toNat)
    case atStart => exact ⟨0, rfl, Nat.zero_le _, Lib.hid (by rw [List.take_zero, wrBl_nil, List.append_nil]; exact HC2.out), HT2, HLA⟩
    case round =>
      obtain ⟨k, rfl, hk, HCR, HTW, HLR⟩ := hrel
      by_cases hlt : k < bl.length
      · obtain ⟨c2, hck⟩ : ∃ c2, bl[k]? = some c2 := ⟨_, List.getElem?_eq_getElem hlt⟩
        obtain ⟨hcl, dk, pa, hdk, hvis⟩ := HREC.out c2 (List.mem_append_left _ (List.mem_of_getElem? hck))
        obtain ⟨gl, cur, rfl, -, a0⟩ := HLR.out k c2 hck
        have hbr := HTR0.out wr HTW.out
        have t0 := (hbr.cell (p := ⟨T, 0, none⟩) HTL).trans HT0.out
        have s0 := (hbr.cell (p := ⟨g, c2, none⟩) hg).trans (HSL.out c2 dk hdk)
        unfold Nd.ptr at s0
        have i0 : (0 : Int) ≤ (c2 : Int) := by omega
        have i1 : (c2 : Int) < ((ds.length : Nat) : Int) := by omega
        have HTK := Lib.hid (wrBl_take (W := wrP ss) hck)
        have hle := wrBl_take_le (wrP ss) bl (k + 1)
        rw [HTK.out, List.length_append] at hle
        have HVT : Hid (vtx ss (some pa) c2 = 123 :: (wrP ss c2 ++ [125])) := Lib.hid (by unfold vtx brk; rw [if_neg (by simp), if_neg (by simp)]; rfl)
        have HV := Lib.hid (hvis wr _ hbr HCR.out (by rw [HVT.out, List.length_append]; have := HB1L.out; omega))
        generalize dk.blk = dkb at *
        clear hck hdk hvis hbr hle
        go_wp2_with fail
        refine HV.out.mono ?_
        rintro e w3 ⟨rfl, hc3, ht3⟩
        have HC3 : Hid (WrIs w3 w0.heap.size X (b1 ++ wrBl (wrP ss) (bl.take (k + 1)))) := Lib.hid (by
          rw [HTK.out, ← List.append_assoc, ← HVT.out]
          exact hc3)
        have HT3 := Lib.hid (HTW.out.trans ht3)
        have HL3 : Hid (ListRow w3 (some ⟨gl, 0, none⟩) bl) := Lib.hid (by
          obtain ⟨_, _, hr⟩ := HCR.out.row
          exact HLR.out.left hr ht3)
        clear hc3 ht3 HV
        go_wp2
        go_roundw
        case rel => exact ⟨k + 1, by go_num, by omega, HC3, HT3, HL3⟩
        case measure => simp only [intOf]; omega
      · obtain rfl : k = bl.length := by omega
        rw [List.take_length] at HCR
        have hbr := HTR0.out wr HTW.out
        have n2 := (hbr.cell (p := ⟨db, 2, none⟩) HNL).trans HN2.out
        clear hbr hlt
        have HC3 : Hid (WrIs wr w0.heap.size X (b1 ++ wrBl (wrP ss) bl ++ wrIt (wrP ss) (xs.take 0))) := Lib.hid (by
          rw [List.take_zero, wrIt_nil, List.append_nil]
          exact HCR.out)
        go_wp2
        generalize wr = V at *
        go_loopw [37] (fun i wr => ∃ j : Nat, i = .int .i64 j ∧ j ≤ xs.length ∧ Hid (WrIs wr w0.heap.size X (b1 ++ wrBl (wrP ss) bl ++ wrIt (wrP ss) (xs.take j))) ∧ Hid (WrLeft w0.heap.size X w wr)) (fun i _ => xs.length - (intOf i).toNat)
        case atStart => exact ⟨0, rfl, Nat.zero_le _, HC3, HTW⟩
        case round =>
          obtain ⟨j, rfl, hj, HCQ, HTQ⟩ := hrel
          have hbq := HTR0.out wr HTQ.out
          by_cases hjl : j < xs.length
          · obtain ⟨x, hx⟩ : ∃ x, xs[j]? = some x := ⟨_, List.getElem?_eq_getElem hjl⟩
            obtain ⟨bx, off, rfl, hbx, hcx⟩ : ∃ b off, oi = some ⟨b, off, none⟩ ∧ b < w0.heap.size ∧ ∀ i x, xs[i]? = some x → w0.cell? ⟨b, off + i * 3, none⟩ = some (.int .i64 x.kind) ∧ w0.cell? ⟨b, off + i * 3 + 1, none⟩ = some (.string x.name) ∧ w0.cell? ⟨b, off + i * 3 + 2, none⟩ = some (.int .i64 x.scope) := by
              rcases HHI.out with h | h
              · rw [h] at hjl; simp at hjl
              · exact h
            obtain ⟨q0, q1, q2⟩ := hcx j x hx
            have a0 := (hbq.cell (p := ⟨bx, off + j * 3, none⟩) hbx).trans q0
            have a1 := (hbq.cell (p := ⟨bx, off + j * 3 + 1, none⟩) hbx).trans q1
            have a2 := (hbq.cell (p := ⟨bx, off + j * 3 + 2, none⟩) hbx).trans q2
            have HX := Lib.hid hx
            obtain ⟨hnm1, hmods⟩ := HMS.out x (List.mem_of_getElem? hx)
            have HMD := Lib.hid hmods
            have hbA := (Below.refl wr.heap.size wr).alloc (Nat.le_refl _) (.cells #[.int .i64 x.kind, .string x.name, .int .i64 x.scope] 138)
            have RX := Lib.hid (Row.new wr [.int .i64 x.kind, .string x.name, .int .i64 x.scope] 138)
            have HBA := Lib.hid hbA
            have HTK := Lib.hid (wrIt_take (W := wrP ss) hx)
            have hle := wrIt_take_le (wrP ss) xs (j + 1)
            rw [HTK.out, List.length_append, List.length_append] at hle
            have HLE := Lib.hid hle
            have hwl : (b1 ++ wrBl (wrP ss) bl ++ wrIt (wrP ss) (xs.take j)).length ≤ 1000 := by simp only [List.length_append]; have := HB1L.out; omega
            have CS := Lib.hid (wrShow_any (HCQ.out.keep hbA) hwl x hnm1)
            have hBw : w0.heap.size ≤ wr.heap.size := hbq.size
            clear q0 q1 q2 hcx hx hbA hle hmods hnm1
            go_wp2_with fail
            refine CS.out.mono ?_
            rintro e w4 ⟨rfl, hc4, ht4⟩
            have HC4 := Lib.hid hc4
            have HX4 : Hid (Row w4 wr.heap.size 138 [.int .i64 x.kind, .string x.name, .int .i64 x.scope]) := Lib.hid ((ht4.others wr.heap.size _ RX.out (by
              obtain ⟨_, _, h⟩ := HCQ.out.row
              have := h.lt
              simp; omega) (fun c fz e => by injection e with _ e2 _; exact absurd e2 (by decide))))
            have HT4 := Lib.hid ((HTQ.out.trans (WrLeft.of_below HBA.out hBw)).trans ht4)
            have x2 := HX4.out.cell (i := 2) (v := .int .i64 x.scope) (by rfl)
            clear hc4 ht4 CS a0 a1 a2
            by_cases hm : x.scope = -1
            · have em : (x.scope != -1) = false := by simp [hm]
              have em' : (x.scope == -1) = true := by simp [hm]
              have HC5 : Hid (WrIs w4 w0.heap.size X (b1 ++ wrBl (wrP ss) bl ++ wrIt (wrP ss) (xs.take (j + 1)))) := Lib.hid (by
                rw [HTK.out, if_pos hm, List.append_nil, ← List.append_assoc]
                exact HC4.out)
              go_wp2
              go_roundw
              case rel => exact ⟨j + 1, by go_num, by omega, HC5, HT4⟩
              case measure => simp only [intOf]; omega
            · have em : (x.scope != -1) = true := by simp [hm]
              have em' : (x.scope == -1) = false := by simp [hm]
              obtain ⟨km, hkm, hkk⟩ := HMD.out hm
              have hkt : x.scope.toNat = km := by omega
              rw [hkt] at hkk
              obtain ⟨hcl, dk, pa, hdk, hvis⟩ := HREC.out km hkk
              have hb4 := HTR0.out w4 HT4.out
              have t0 := (hb4.cell (p := ⟨T, 0, none⟩) HTL).trans HT0.out
              have s0 := (hb4.cell (p := ⟨g, km, none⟩) hg).trans (HSL.out km dk hdk)
              unfold Nd.ptr at s0
              have i0 : (0 : Int) ≤ (km : Int) := by omega
              have i1 : (km : Int) < ((ds.length : Nat) : Int) := by omega
              have HVT : Hid (vtx ss (some pa) km = 123 :: (wrP ss km ++ [125])) := Lib.hid (by unfold vtx brk; rw [if_neg (by simp), if_neg (by simp)]; rfl)
              have HTX : Hid (wrIt (wrP ss) (xs.take (j + 1)) = wrIt (wrP ss) (xs.take j) ++ wtI x ++ vtx ss (some pa) km) := Lib.hid (by rw [HTK.out, if_neg hm, hkt, HVT.out, List.append_assoc])
              have hle2 := wrIt_take_le (wrP ss) xs (j + 1)
              rw [HTX.out, List.length_append, List.length_append] at hle2
              have HLE2 := Lib.hid hle2
              rw [hkm] at x2 em em'
              have hS0 : w4.drew.cell? ⟨T, 0, none⟩ = some (.slice (some ⟨g, 0, none⟩) ds.length cap') ∧ w4.drew.cell? ⟨g, km, none⟩ = some (.pointer (some ⟨dk.blk, 0, none⟩)) ∧ w4.drew.cell? ⟨wr.heap.size, 2, none⟩ = some (.int .i64 (km : Int)) := ⟨cell_drew t0, cell_drew s0, cell_drew x2⟩
              have HD4 := Lib.hid ((Below.refl w4.heap.size w4).drew)
              have HS40 := Lib.hid hS0
              have HX40 : Hid (Row w4.drew wr.heap.size 138 [.int .i64 x.kind, .string x.name, .int .i64 x.scope]) := Lib.hid HX4.out
              have HVV : Hid (∀ W', Below w4.heap.size w4 W' → Calls Tryd.prog 72 #[.pointer (some ⟨T, 0, none⟩), .pointer (some ⟨dk.blk, 0, none⟩), .iface 109 (.pointer (some ⟨X, 0, none⟩))] W' fun e w' => e = .returned (.tuple #[]) ∧ WrIs w' w0.heap.size X (b1 ++ wrBl (wrP ss) bl ++ wrIt (wrP ss) (xs.take j) ++ wtI x ++ vtx ss (some pa) km) ∧ WrLeft w0.heap.size X W' w') := Lib.hid fun W' h =>
                hvis W' _ (hb4.trans (h.mono hb4.size)) (HC4.out.keep h) (by simp only [List.length_append]; have h1 := HB1L.out; have h2 := HLE2.out; omega)
              have hB4 : w0.heap.size ≤ w4.heap.size := hb4.size
              generalize dk.blk = dkb at *
              clear hdk hvis hb4 hle2 s0 t0
              go_wp2
              refine wp_region_kept (S := fun w' => w'.cell? ⟨T, 0, none⟩ = some (.slice (some ⟨g, 0, none⟩) ds.length cap') ∧ w'.cell? ⟨g, km, none⟩ = some (.pointer (some ⟨dkb, 0, none⟩)) ∧ w'.cell? ⟨wr.heap.size, 2, none⟩ = some (.int .i64 (km : Int))) 99 (by kernel_rfl) ?_
              generalize w4.drew = v0 at *
              refine KeptAny.tv (v := ?_) 0 hS0 (fun w' hw' => ?_) ?_
              rotate_left
              · (obtain ⟨g0, g1, g2⟩ := hw'; go_simp; try with_reducible rfl)
              refine KeptAny.tv (v := ?_) 1 hS0 (fun w' hw' => ?_) ?_
              rotate_left
              · (obtain ⟨g0, g1, g2⟩ := hw'; go_simp; try with_reducible rfl)
              refine KeptAny.tv (v := ?_) 2 hS0 (fun w' hw' => ?_) ?_
              rotate_left
              · (obtain ⟨g0, g1, g2⟩ := hw'; go_simp; try with_reducible rfl)
              refine KeptAny.tv (v := ?_) 3 hS0 (fun w' hw' => ?_) ?_
              rotate_left
              · (obtain ⟨g0, g1, g2⟩ := hw'; go_simp; try with_reducible rfl)
              refine KeptAny.tv (v := ?_) 4 hS0 (fun w' hw' => ?_) ?_
              rotate_left
              · (obtain ⟨g0, g1, g2⟩ := hw'; go_simp; try with_reducible rfl)
              refine KeptAny.tv (v := ?_) 5 hS0 (fun w' hw' => ?_) ?_
              rotate_left
              · (obtain ⟨g0, g1, g2⟩ := hw'; go_simp; try with_reducible rfl)
              refine KeptAny.tv (v := ?_) 6 hS0 (fun w' hw' => ?_) ?_
              rotate_left
              · (obtain ⟨g0, g1, g2⟩ := hw'; go_simp; try with_reducible rfl)
              refine KeptAny.tv (v := ?_) 7 hS0 (fun w' hw' => ?_) ?_
              rotate_left
              · (obtain ⟨g0, g1, g2⟩ := hw'; go_simp; try with_reducible rfl)
              refine KeptAny.tv (v := ?_) 8 hS0 (fun w' hw' => ?_) ?_
              rotate_left
              · (obtain ⟨g0, g1, g2⟩ := hw'; go_simp; try with_reducible rfl)
              refine KeptAny.tv (v := ?_) 9 hS0 (fun w' hw' => ?_) ?_
              rotate_left
              · (obtain ⟨g0, g1, g2⟩ := hw'; go_simp; try with_reducible rfl)
              clear hS0
              refine KeptAny.one (i := 10) (by kernel_rfl) rfl (by kernel_rfl) (fun KF hKF => ?_)
              go_simp
              refine ⟨trivial, ?_⟩
              refine ((callsIn_wide (n := 5)).2 (HVV.out v0 HD4.out)).mono ?_
              rintro e w5 ⟨rfl, hc5, ht5⟩
              have hv0 : w0.heap.size ≤ v0.heap.size := Nat.le_trans hB4 HD4.out.size
              have hbx5 : w5.heap[wr.heap.size]? = v0.heap[wr.heap.size]? := (ht5.others wr.heap.size _ HX40.out (by
                obtain ⟨_, _, h⟩ := HCQ.out.row
                have := h.lt
                simp; omega) (fun c fz e => by injection e with _ e2 _; exact absurd e2 (by decide))).trans HX40.out.symm
              have hT5 : w5.heap[T]? = v0.heap[T]? := ht5.below.block T HTL
              have hg5 : w5.heap[g]? = v0.heap[g]? := ht5.below.block g hg
              refine hKF.out _ _ ⟨(World.cell?_of_block (a := ⟨T, 0, none⟩) hT5).trans HS40.out.1, (World.cell?_of_block (a := ⟨g, km, none⟩) hg5).trans HS40.out.2.1, (World.cell?_of_block (a := ⟨wr.heap.size, 2, none⟩) hbx5).trans HS40.out.2.2⟩ (fun _ => ?_)
              clear hKF hbx5 hT5 hg5
              have HC6 : Hid (WrIs w5 w0.heap.size X (b1 ++ wrBl (wrP ss) bl ++ wrIt (wrP ss) (xs.take (j + 1)))) := Lib.hid (by
                rw [HTX.out, ← List.append_assoc, ← List.append_assoc]
                exact hc5)
              have HT6 := Lib.hid ((HT4.out.trans (WrLeft.of_below HD4.out hB4)).trans ht5)
              clear hc5 ht5 HVV
              refine KeptAny.done (by kernel_rfl) ?_ _
              go_wp2
              go_roundw
              case rel => exact ⟨j + 1, by go_num, by omega, HC6, HT6⟩
              case measure => simp only [intOf]; omega
          · obtain rfl : j = xs.length := by omega
            have hfin := HCQ.out
            rw [List.take_length] at hfin
            have CE := Lib.hid (wrEnd_any hfin (by simp only [List.length_append]; have := HB1L.out; omega) (HND.out.below hbq HNL))
            have HVX : Hid (b1 ++ wrBl (wrP ss) bl ++ wrIt (wrP ss) xs ++ brk par 125 = bs ++ vtx ss par s) := Lib.hid (by
              unfold vtx
              rw [HWR.out, ← HB1E.out]
              simp only [List.append_assoc])
            clear hbq hjl hfin
            go_wp2_with fail
            refine CE.out.mono ?_
            rintro e w6 ⟨rfl, hc6, ht6⟩
            rw [HVX.out] at hc6
            have HC7 := Lib.hid hc6
            have HT7 := Lib.hid (HTQ.out.trans ht6)
            clear hc6 ht6 CE
            go_wp2
            go_end0
            exact ⟨rfl, HC7.out, HT7.out⟩
theorem visitW_any {ss : List Sc} (hv : Valid ss) {w0 : World} {B T M1 M2 : Nat} {v : Value} {ds : List Nd} (hT : TreeIs w0 B T M1 M2 v ds ss) {X : Nat} : ∀ (m s : Nat), ss.length ≤ s + m → ∀ d, ds[s]? = some d → VisitW ss w0 T X s d.blk d.par
  | 0, s, hm, d, hd => by
    have := (List.getElem?_eq_some_iff.1 hd).1
    have := hT.hold.len
    omega
  | m + 1, s, hm, d, hd => visitW_step hv hT s d hd fun k hk => by
    have h1 := kids_lt hv hk
    have h2 := (kids_par hv hk).1
    have h3 := hT.hold.len
    obtain ⟨dk, hdk⟩ : ∃ e, ds[k]? = some e := ⟨_, List.getElem?_eq_getElem (by omega)⟩
    rcases par_ptr hT.pars hv.climbs h3 hdk with ⟨h4, _⟩ | ⟨p, e, _, _, _, h4⟩
    · rw [(kids_par hv hk).2] at h4
      cases h4
    · refine ⟨dk, ⟨e.blk, 0, none⟩, hdk, ?_⟩
      have h5 := visitW_any hv hT (X := X) m k (by omega) dk hdk
      rw [h4] at h5
      exact h5
set_option maxRecDepth 100000 in
set_option maxHeartbeats 8000000 in
theorem implProgram_any (ss : List Sc) (hF : Fair ss) (oa : Option Addr) (cap : Nat) (w : World) (hc : HoldsScopes w oa ss) (hE : TreeErrs w) :
    Calls Tryd.prog 29 #[.agg #[.slice oa ss.length cap]] w fun e w' => e = .returned (.tuple #[.string (progR ss).1, .bool (progR ss).2]) ∧ Below w.heap.size w w' := by
  have hb0 := (Below.refl w.heap.size w).alloc (Nat.le_refl _) (.cells #[.slice oa ss.length cap] 30)
  have C := Lib.hid (hF.tree oa cap _ (hc.below hb0 (Nat.le_refl _)) (hE.below hb0 hE.size))
  have HB0 := Lib.hid hb0
  clear hF hc hE hb0
  go_enter Tryd.func29, Tryd.ntmps29
  go_wp2_with fail
  refine C.out.mono ?_
  rintro e w1 (⟨hv, ⟨tp, p, rfl⟩, hb⟩ | ⟨hv, T, M1, M2, v, ds, rfl, hb, hT⟩)
  · have HR : Hid (progR ss = (⟨#[]⟩, false)) := Lib.hid (by unfold progR; rw [if_neg hv])
    have HB := Lib.hid (HB0.out.trans (hb.mono HB0.out.size))
    clear hv hb
    go_wp2
    go_ret2
    exact ⟨by rw [HR.out]; rfl, HB.out⟩
  · have HR : Hid (progR ss = (⟨(wrP ss 0).toArray⟩, true)) := Lib.hid (by unfold progR; rw [if_pos hv])
    have HB := Lib.hid (HB0.out.trans (hb.mono HB0.out.size))
    have hdl := hT.hold.len
    have h6 := hv.count
    obtain ⟨g, cap', rfl, hgB, hg, hslot⟩ := hT.tree.slot (hT.ne hv)
    obtain ⟨d0, hd0⟩ : ∃ d, ds[0]? = some d := ⟨_, List.getElem?_eq_getElem (by omega)⟩
    have hs0 := hslot 0 d0 hd0
    unfold Nd.ptr at hs0
    have t0 := hT.tree.box.cell (i := 0) (by rfl)
    have hbA := (Below.refl w1.heap.size w1).alloc (Nat.le_refl _) (.cells #[.pointer none, .slice none 0 0] 102)
    have t1 := (hbA.cell (p := ⟨T, 0, none⟩) hT.tree.box.lt).trans t0
    have s1 := (hbA.cell (p := ⟨g, 0, none⟩) hg).trans hs0
    have HBA := Lib.hid hbA
    have hpar : d0.par = none := by
      rcases par_ptr hT.pars hv.climbs hdl hd0 with ⟨_, h⟩ | ⟨p, e, hp, _⟩
      · exact h
      · rw [hv.climbs.par_zero] at hp
        cases hp
    have HVX : Hid (vtx ss d0.par 0 = wrP ss 0) := Lib.hid (by unfold vtx brk; rw [hpar, if_pos rfl, if_pos rfl, List.append_nil]; rfl)
    have HWI : Hid (WrIs (w1.alloc (.cells #[.pointer none, .slice none 0 0] 102)) w1.heap.size w1.heap.size []) := Lib.hid ⟨Nat.le_refl _, _, _, .inl rfl, Row.new w1 [.pointer none, .slice none 0 0] 102, World.ownsRow_nil _ _ _ _, fun _ => rfl⟩
    have hsm := wr_small hv hv.count.1
    have HVS := Lib.hid (visitW_any hv hT (X := w1.heap.size) ss.length 0 (by omega) d0 hd0 _ [] HBA.out HWI.out (by rw [HVX.out]; simp; omega))
    have p0 : (0 : Int) < ((ds.length : Nat) : Int) := by omega
    have p1 : 0 < ds.length := by omega
    have HSM := Lib.hid hsm
    clear hv hb hT hslot hs0 hd0 hdl h6 t0 hbA hpar hsm
    go_wp2_with fail
    refine HVS.out.mono ?_
    rintro e w2 ⟨rfl, hw2, hl2⟩
    rw [List.nil_append, HVX.out] at hw2
    have CT := Lib.hid (builtText_any hw2 (by have := HSM.out; omega))
    have HB2 := Lib.hid (HB.out.trans ((HBA.out.trans hl2.below).mono HB.out.size))
    have HBs := Lib.hid HB.out.size
    clear hw2 hl2 t1 s1 HVS
    go_wp2_with fail
    refine CT.out.mono ?_
    rintro e w3 ⟨rfl, hb3⟩
    have HB3 := Lib.hid (HB2.out.trans (hb3.mono HBs.out))
    clear hb3 CT
    go_wp2
    go_ret2
    exact ⟨by rw [HR.out]; rfl, HB3.out⟩
end Go.Proofs.YtifjljkbfabifaaDoor
