/-
  The walks of impl's Item.text, (*node).text and FormatGraph: a valid graph's text; that of another one is empty. Conditions: the argument's memory holds the graph, the package-level errors hold errors, the table of powers of ten is whole. (genfmti.py writes this text.)
-/
import Derived.Test.YtdmaaneilfjfcaaDoorJA
import Derived.Test.YtdmaaneilfjfcaaDoorGlobs
import Derived.Test.YtdmaaneilfjfcaaDoorFmtP
import Derived.Test.YtdmaaneilfjfcaaDoorJF
import Derived.Test.YtdmaaneilfjfcaaDoorWShape
import Derived.Test.YtdmaaneilfjfcaaDoorJB
import Derived.Test.YtdmaaneilfjfcaaDoorWTreeOf
namespace Go.Proofs.YtdmaaneilfjfcaaDoor
open Go Go.RowKit Sg
theorem itoa_txF (n : Int) (h : I64 n) (w : World) (hg : TabGlobs w) :
    Calls Tryd.prog 69 #[.int .i64 n] w fun e w' => e = .returned (.string (tx n)) ∧ Below w.heap.size w w' := by
  refine (Tryd.strconv_Itoa n h.1 h.2 w hg.tab).mono ?_
  rintro e w' ⟨rfl, k, os, rfl⟩
  exact ⟨rfl, below_grow _ _ _⟩
theorem tx_bT (n : Int) : tx n = bT (Lib.itoa n) := rfl
theorem nm_bT (x : ByteArray) : x = bT x.data.toList := bT_of rfl
theorem bT_app (l m : List UInt8) : bT l ++ bT m = bT (l ++ m) := by rw [bT_append, bT_data]
theorem itemTx_eq (x : It) (h2 : ¬ x.kind = 2) (h3 : ¬ x.kind = 3) (hs : 0 ≤ x.scope) : x.name ++ (⟨#[61]⟩ : ByteArray) ++ tx x.scope = bT (itemTx x) := by
  have e : (⟨#[61]⟩ : ByteArray) = bT [61] := rfl
  rw [nm_bT x.name, e, tx_bT, bT_app, bT_app]
  unfold itemTx
  rw [if_neg h2, if_neg h3, if_pos hs]
  simp
set_option maxRecDepth 100000 in
theorem itemText_any (x : It) (hn : x.name.size ≤ 1) (hI : I64 x.scope) (hs : x.scope = -1 ∨ 0 ≤ x.scope) (w : World) (hg : TabGlobs w) :
    Calls Tryd.prog 70 #[.agg #[.int .i64 x.kind, .string x.name, .int .i64 x.scope]] w fun e w' => e = .returned (.string (bT (itemTx x))) ∧ Below w.heap.size w w' := by
  have hYs' := tx_size hI
  have hB0 := (Below.refl _ w).alloc (Nat.le_refl _) (.cells #[.int .i64 x.kind, .string x.name, .int .i64 x.scope] 37)
  have hg0 := hg.below hB0 hg.size
  have r0 := Row.new w [.int .i64 x.kind, .string x.name, .int .i64 x.scope] 37
  have c0 := r0.cell (i := 0) (v := .int .i64 x.kind) (by rfl)
  have c1 := r0.cell (i := 1) (v := .string x.name) (by rfl)
  have c2 := r0.cell (i := 2) (v := .int .i64 x.scope) (by rfl)
  have k1 := cell_regrown (w := w.alloc (.cells #[.int .i64 x.kind, .string x.name, .int .i64 x.scope] 37)) (a := ⟨w.heap.size, 1, none⟩) (v := .string x.name) c1
  have k2 := cell_regrown (w := w.alloc (.cells #[.int .i64 x.kind, .string x.name, .int .i64 x.scope] 37)) (a := ⟨w.heap.size, 2, none⟩) (v := .int .i64 x.scope) c2
  have cD := fun d os => Calls.regrown_of (w := w.alloc (.cells #[.int .i64 x.kind, .string x.name, .int .i64 x.scope] 37)) (d := d) (os := os) (itoa_txF x.scope hI _ (hg0.below (below_regrown _ d os) hg0.size))
  have n1 : ¬ 9223372036854775807 < x.name.size + 1 := by omega
  have n2 : ¬ 9223372036854775807 < x.name.size + 1 + (tx x.scope).size := by omega
  have n3 : ¬ 9223372036854775807 < 1 + x.name.size := by omega
  clear hg hg0 r0
  have HB0 := Lib.hid hB0
  clear hB0
  by_cases h2 : x.kind = 2
  · have e2 : (x.kind == 2) = true := by simpa using h2
    have HE : Hid ((⟨#[63]⟩ : ByteArray) ++ x.name = bT (itemTx x)) := Lib.hid (by
      have e : (⟨#[63]⟩ : ByteArray) = bT [63] := rfl
      rw [nm_bT x.name, e, bT_app]
      unfold itemTx
      rw [if_pos h2]
      simp)
    clear cD k1 k2 h2
    go_enter Tryd.func70, Tryd.ntmps70
    go_wp2
    go_ret
    exact ⟨by rw [← HE.out]; rfl, HB0.out⟩
  have e2 : (x.kind == 2) = false := by simpa using h2
  by_cases h3 : x.kind = 3
  · have e3 : (x.kind == 3) = true := by simpa using h3
    have HE : Hid ((⟨#[33]⟩ : ByteArray) ++ x.name = bT (itemTx x)) := Lib.hid (by
      have e : (⟨#[33]⟩ : ByteArray) = bT [33] := rfl
      rw [nm_bT x.name, e, bT_app]
      unfold itemTx
      rw [if_neg h2, if_pos h3]
      simp)
    clear cD k1 k2 h2 h3
    go_enter Tryd.func70, Tryd.ntmps70
    go_wp2
    go_ret
    exact ⟨by rw [← HE.out]; rfl, HB0.out⟩
  have e3 : (x.kind == 3) = false := by simpa using h3
  by_cases h4 : x.scope = -1
  · have e4 : (x.scope != -1) = false := by simpa using h4
    have e5 : (x.scope == -1) = true := by simpa using h4
    have HE : Hid (x.name = bT (itemTx x)) := Lib.hid (by
      rw [show itemTx x = x.name.data.toList by unfold itemTx; rw [if_neg h2, if_neg h3, if_neg (by omega)]]
      exact nm_bT _)
    clear cD k1 k2 h2 h3 h4 hs
    go_enter Tryd.func70, Tryd.ntmps70
    go_wp2
    go_ret
    exact ⟨by rw [← HE.out]; rfl, HB0.out⟩
  · have e4 : (x.scope != -1) = true := by simpa using h4
    have e5 : (x.scope == -1) = false := by simpa using h4
    have HE := Lib.hid (itemTx_eq x h2 h3 (by omega))
    clear h2 h3 h4 hs
    go_enter Tryd.func70, Tryd.ntmps70
    go_wp2
    refine wp_region_quiet_below (by kernel_rfl) (by kernel_rfl) ?_
    repeat (quiet_step (exact cD _ _))
    refine wpQuiet_nil ?_
    intro _ hw'
    obtain ⟨⟨dq, osq⟩, hw''⟩ := hw'
    subst hw''
    clear n1 n2
    go_wp2
    go_ret
    exact ⟨by rw [← HE.out]; rfl, HB0.out.trans ((below_regrown (w.alloc (.cells #[.int .i64 x.kind, .string x.name, .int .i64 x.scope] 37)) dq osq).mono (by simp))⟩
theorem item_scope {ss : List Sc} (hv : Valid ss) {i j : Nat} {x : It} (hq : (i, j, x) ∈ placed 0 ss) : x.scope = -1 ∨ 0 ≤ x.scope := by
  have h3 := hv.items
  rw [← placed_flat] at h3
  have h4 := (h3.1 (i, x) (List.mem_map.2 ⟨(i, j, x), hq, rfl⟩)).2
  unfold modB at h4
  simp only [Bool.or_eq_true, Bool.and_eq_true, beq_iff_eq] at h4
  rcases h4 with h | ⟨h, -⟩
  · exact .inl h
  · unfold inB at h
    simp only [Bool.and_eq_true, decide_eq_true_eq] at h
    exact .inr (by omega)
def headT (k : Nat) (s : Sc) : List UInt8 := if k = 0 then [45] else Lib.itoa s.parent
theorem nodeTx_head (k : Nat) (s : Sc) : nodeTx k s = headT k s ++ itemsTx s.items := rfl
set_option maxRecDepth 100000 in
set_option maxHeartbeats 4000000 in
theorem nodeText_any {ss : List Sc} (hv : Valid ss) {w : World} {B T M1 M2 : Nat} {v : Value} {ds : List Nd} (hT : TreeIs w B T M1 M2 v ds ss) (hg : TabGlobs w) {k : Nat} {d : Nd} (hd : ds[k]? = some d) {s : Sc} (hs : ss[k]? = some s) :
    Calls Tryd.prog 46 #[.pointer (some ⟨d.blk, 0, none⟩)] w fun e w' => e = .returned (.string (bT (nodeTx k s))) ∧ Below w.heap.size w w' := by
  obtain ⟨oi, ci, hdi, hhi⟩ := hT.hold.items k d s hd hs
  have hrow := (hT.tree.node k d hd).2
  have c1 : w.cell? ⟨d.blk, 1, none⟩ = some (.pointer d.par) := hrow.cell (i := 1) (by rfl)
  have c2 : w.cell? ⟨d.blk, 2, none⟩ = some (.slice oi s.items.length ci) := by
    have := hrow.cell (i := 2) (v := d.items) (by rfl)
    rw [this, hdi]
  have HG := Lib.hid hg
  have HV := Lib.hid hv
  have HS := Lib.hid hs
  have HHI := Lib.hid hhi
  have HTX := Lib.hid (hv.texts s (List.mem_of_getElem? hs))
  have HHL : Hid ((headT k s).length ≤ 21) := Lib.hid (by
    unfold headT
    split
    · simp
    · exact Lib.itoa_length_le _ HTX.out.1.1 HTX.out.1.2)
  have HB : Hid (Below w.heap.size w w) := Lib.hid (Below.refl _ _)
  have hpar := hT.pars k d s hd hs
  have hsl : s.items.length ≤ 5 := HTX.out.2.1
  rcases scope_parent (hv.scopes k s hs) with ⟨rfl, hp⟩ | ⟨p, hp, hpk⟩
  · have hpn : d.par = none := by rw [hpar, hp]; rfl
    rw [hpn] at c1
    clear hT hg hd hs hhi hrow hpar hpn hv hdi
    go_enter Tryd.func46, Tryd.ntmps46
    go_wp2
    go_loopw [3, 24] (fun v i wr => ∃ j : Nat, i = .int .i64 j ∧ v = .string (bT (headT 0 s ++ itemsTx (s.items.take j))) ∧ j ≤ s.items.length ∧ Hid (Below w.heap.size w wr)) (fun _ i _ => s.items.length - (intOf i).toNat)
    case atStart => exact ⟨0, rfl, by rw [List.take_zero]; rfl, Nat.zero_le _, HB⟩
    case round =>
      obtain ⟨j, rfl, rfl, hj, HW⟩ := hrel
      by_cases hlt : j < s.items.length
      · obtain ⟨x, hx⟩ : ∃ x, s.items[j]? = some x := ⟨_, List.getElem?_eq_getElem hlt⟩
        obtain ⟨hxn, hxI⟩ := HTX.out.2.2 x (List.mem_of_getElem? hx)
        have hxs := item_scope HV.out (placed_of HS.out hx)
        obtain ⟨b2, f2, rfl, hb2, x0, x1, x2⟩ := (HHI.out.below HW.out (Nat.le_refl _)).got hx
        have hbP := HW.out.alloc HW.out.size (.cells #[.int .i64 x.kind, .string x.name, .int .i64 x.scope] 37)
        have C3 := Lib.hid (itemText_any x hxn hxI hxs _ (HG.out.below hbP HG.out.size))
        have HWP := Lib.hid hbP
        have hZ : (itemTx x).length ≤ 23 := itemTx_len hxn hxI
        have hY := itemsTx_len (xs := s.items.take j) (fun y hy => HTX.out.2.2 y (List.mem_of_mem_take hy))
        have hYL : (s.items.take j).length ≤ 5 := by have := HTX.out.2.1; rw [List.length_take]; omega
        have hHL := HHL.out
        have b1 := bT_size (itemTx x)
        have b2' := bT_size (headT 0 s ++ itemsTx (s.items.take j))
        rw [List.length_append] at b2'
        have n1 : ¬ 9223372036854775807 < 1 + (bT (itemTx x)).size := by omega
        have n2 : ¬ 9223372036854775807 < (bT (headT 0 s ++ itemsTx (s.items.take j))).size + (1 + (bT (itemTx x)).size) := by omega
        have HE : Hid (bT (headT 0 s ++ itemsTx (s.items.take j)) ++ ((⟨#[44]⟩ : ByteArray) ++ bT (itemTx x)) = bT (headT 0 s ++ itemsTx (s.items.take (j + 1)))) := Lib.hid (by
          have e : (⟨#[44]⟩ : ByteArray) = bT [44] := rfl
          rw [e, bT_app, bT_app, List.take_add_one, hx]
          show _ = bT (headT 0 s ++ itemsTx (s.items.take j ++ [x]))
          rw [itemsTx_snoc]
          simp)
        clear hx hxn hxI hxs hb2 hbP hZ hY hYL hHL b1 b2'
        go_wp2_with fail
        refine C3.out.mono ?_
        rintro e w3 ⟨rfl, hb3⟩
        have HW3 := Lib.hid (HWP.out.trans (hb3.mono HWP.out.size))
        clear hb3 x0 x1 x2
        go_wp2
        go_roundw
        case rel => exact ⟨j + 1, by go_num, by rw [← HE.out], by omega, HW3⟩
        case measure => simp only [intOf]; omega
      · obtain rfl : j = s.items.length := by omega
        go_wp2
        go_ret
        exact ⟨by rw [List.take_length, nodeTx_head]; rfl, HW.out⟩
  · obtain ⟨e, he⟩ : ∃ e, ds[p]? = some e := ⟨_, List.getElem?_eq_getElem (by have := (List.getElem?_eq_some_iff.1 hd).1; omega)⟩
    have hpn : d.par = some ⟨e.blk, 0, none⟩ := by rw [hpar, hp]; unfold newPar; rw [if_neg (by omega), Int.toNat_natCast, he]; rfl
    have c3 : w.cell? ⟨e.blk, 0, none⟩ = some (.int .i64 s.parent) := by rw [hp]; exact (hT.tree.node p e he).2.cell (i := 0) (by rfl)
    rw [hpn] at c1
    have HK : Hid (headT k s = Lib.itoa s.parent) := Lib.hid (by unfold headT; rw [if_neg (by omega)])
    have C2 := Lib.hid (itoa_txF s.parent HTX.out.1 w hg)
    clear hT hg hd hs hhi hrow hpar hpn hv hdi hp hpk he
    go_enter Tryd.func46, Tryd.ntmps46
    go_wp2_with fail
    refine C2.out.mono ?_
    rintro e w2 ⟨rfl, hb2⟩
    have HB := Lib.hid hb2
    have c2 := (hb2.cell (p := ⟨d.blk, 2, none⟩) (World.block_lt_of_cell? _ _ c2)).trans c2
    clear hb2 c1 c3
    go_wp2
    go_loopw [3, 24] (fun v i wr => ∃ j : Nat, i = .int .i64 j ∧ v = .string (bT (headT k s ++ itemsTx (s.items.take j))) ∧ j ≤ s.items.length ∧ Hid (Below w.heap.size w wr)) (fun _ i _ => s.items.length - (intOf i).toNat)
    case atStart => exact ⟨0, rfl, by rw [List.take_zero]; rw [HK.out]; simp [itemsTx]; rfl, Nat.zero_le _, HB⟩
    case round =>
      obtain ⟨j, rfl, rfl, hj, HW⟩ := hrel
      by_cases hlt : j < s.items.length
      · obtain ⟨x, hx⟩ : ∃ x, s.items[j]? = some x := ⟨_, List.getElem?_eq_getElem hlt⟩
        obtain ⟨hxn, hxI⟩ := HTX.out.2.2 x (List.mem_of_getElem? hx)
        have hxs := item_scope HV.out (placed_of HS.out hx)
        obtain ⟨b2, f2, rfl, hb2, x0, x1, x2⟩ := (HHI.out.below HW.out (Nat.le_refl _)).got hx
        have hbP := HW.out.alloc HW.out.size (.cells #[.int .i64 x.kind, .string x.name, .int .i64 x.scope] 37)
        have C3 := Lib.hid (itemText_any x hxn hxI hxs _ (HG.out.below hbP HG.out.size))
        have HWP := Lib.hid hbP
        have hZ : (itemTx x).length ≤ 23 := itemTx_len hxn hxI
        have hY := itemsTx_len (xs := s.items.take j) (fun y hy => HTX.out.2.2 y (List.mem_of_mem_take hy))
        have hYL : (s.items.take j).length ≤ 5 := by have := HTX.out.2.1; rw [List.length_take]; omega
        have hHL := HHL.out
        have b1 := bT_size (itemTx x)
        have b2' := bT_size (headT k s ++ itemsTx (s.items.take j))
        rw [List.length_append] at b2'
        have n1 : ¬ 9223372036854775807 < 1 + (bT (itemTx x)).size := by omega
        have n2 : ¬ 9223372036854775807 < (bT (headT k s ++ itemsTx (s.items.take j))).size + (1 + (bT (itemTx x)).size) := by omega
        have HE : Hid (bT (headT k s ++ itemsTx (s.items.take j)) ++ ((⟨#[44]⟩ : ByteArray) ++ bT (itemTx x)) = bT (headT k s ++ itemsTx (s.items.take (j + 1)))) := Lib.hid (by
          have e : (⟨#[44]⟩ : ByteArray) = bT [44] := rfl
          rw [e, bT_app, bT_app, List.take_add_one, hx]
          show _ = bT (headT k s ++ itemsTx (s.items.take j ++ [x]))
          rw [itemsTx_snoc]
          simp)
        clear hx hxn hxI hxs hb2 hbP hZ hY hYL hHL b1 b2'
        go_wp2_with fail
        refine C3.out.mono ?_
        rintro e w3 ⟨rfl, hb3⟩
        have HW3 := Lib.hid (HWP.out.trans (hb3.mono HWP.out.size))
        clear hb3 x0 x1 x2
        go_wp2
        go_roundw
        case rel => exact ⟨j + 1, by go_num, by rw [← HE.out], by omega, HW3⟩
        case measure => simp only [intOf]; omega
      · obtain rfl : j = s.items.length := by omega
        go_wp2
        go_ret
        exact ⟨by rw [List.take_length, nodeTx_head]; rfl, HW.out⟩
theorem nodes_take {ss : List Sc} {k : Nat} {s : Sc} (h : ss[k]? = some s) : ((nodesTx 0 ss).take (k + 1)).map (fun l => Value.string (bT l)) = ((nodesTx 0 ss).take k).map (fun l => Value.string (bT l)) ++ [Value.string (bT (nodeTx k s))] := by
  rw [List.take_add_one, nodesTx_get, h]
  simp
theorem texts_openF {w : World} {B n : Nat} {v : Value} {xs : List ByteArray} (h : w.ownsRow B 9 1 v n (xs.map Value.string)) (hn : 0 < n) :
    ∃ g cap, v = .slice (some ⟨g, 0, none⟩) n cap ∧ xs.length = n ∧ B ≤ g ∧ g < w.heap.size ∧ n ≤ cap ∧ ∀ (j : Nat) x, xs[j]? = some x → w.cell? ⟨g, 0 + j, none⟩ = some (.string x) := by
  have hlt := h.lt
  have hcells := fun g hg => h.cells (g := g) hg
  obtain ⟨hl, h | ⟨g, cap, cur, hv, hg, hh, hnc, hm, hc, ht⟩⟩ := h
  · omega
  · subst hv
    refine ⟨g, cap, rfl, by simpa using hl, hg, (hlt g rfl).2, hnc, fun j x hx => ?_⟩
    have := hcells g rfl j (.string x) (by rw [List.getElem?_map, hx]; rfl)
    rw [Nat.zero_add]
    cases j <;> simpa [Addr.add] using this
theorem bTs_data (l : List (List UInt8)) : (l.map bT).map (·.data.toList) = l := by
  rw [List.map_map]
  have e : ((fun x : ByteArray => x.data.toList) ∘ bT) = id := funext fun x => bT_data x
  rw [e, List.map_id]
set_option maxRecDepth 100000 in
set_option maxHeartbeats 4000000 in
theorem implFormat_any (ss : List Sc) (hF : Fair ss) (oa : Option Addr) (cap : Nat) (w : World) (hc : HoldsScopes w oa ss) (hE : TreeErrs w) (hg : TabGlobs w) :
    Calls Tryd.prog 23 #[.agg #[.slice oa ss.length cap]] w (Formatted ss w) := by
  obtain ⟨i0, hi, hz0, hz1, hz2⟩ := info_parts info9
  have hb0 := (Below.refl w.heap.size w).alloc (Nat.le_refl _) (.cells #[.slice oa ss.length cap] 25)
  have C := Lib.hid (hF.tree oa cap _ (hc.below hb0 (Nat.le_refl _)) (hE.below hb0 hE.size))
  have HB0 := Lib.hid hb0
  have HG := Lib.hid hg
  clear hF hc hE hb0 hg
  go_enter Tryd.func23, Tryd.ntmps23
  go_wp2_with fail
  refine C.out.mono ?_
  rintro e w1 (⟨hv, ⟨tp, p, rfl⟩, hb⟩ | ⟨hv, T, M1, M2, v, ds, rfl, hb, hT⟩)
  · have HN := Lib.hid (And.intro hv (HB0.out.trans (hb.mono HB0.out.size)))
    clear hv hb
    go_wp2
    go_ret
    exact ⟨_, rfl, fun h => absurd h HN.out.1, fun _ => rfl, HN.out.2⟩
  · have hne := hT.ne hv
    obtain ⟨g, cp, rfl, hgB, hgl, hsl⟩ := hT.tree.slot hne
    have t0 := hT.tree.box.cell (i := 0) (by rfl)
    have HB1 := Lib.hid (HB0.out.trans (hb.mono HB0.out.size))
    have HT := Lib.hid hT
    have HV := Lib.hid hv
    have HSL := Lib.hid (And.intro hgl hsl)
    have hlen : ds.length = ss.length := hT.hold.len
    have h6 := hv.count
    have hds : ds.length ≤ 6 := by omega
    have HLN := Lib.hid (And.intro hlen h6)
    clear hv hb hT hne hgB hgl hsl hlen h6
    go_wp2_with (at_make; refine wpList_make_own _ rfl _ _ 68 rfl w1.heap.size 9 i0 _ 1 Tryd.underlying68 hi hz0 hz1 .i64 .i64 _ ds.length rfl rfl rfl (by rw [hz2]; omega) (by unfold maxLen; omega) (Nat.le_refl _) ?_; intro w2 hown1 hg1; have hb2 : Below w1.heap.size w1 w2 := (Below.refl _ w1).grown hg1 (Nat.le_refl _) (fun k h => by cases h); have t0 := (hb2.cell (p := ⟨T, 0, none⟩) (World.block_lt_of_cell? _ _ t0)).trans t0)
    have HB2 := Lib.hid hb2
    have HO1 := Lib.hid hown1
    clear hg1 hb2 hown1
    go_loopw [5, 26] (fun v i wr => ∃ k : Nat, i = .int .i64 k ∧ k ≤ ds.length ∧ Hid (wr.ownsRow w1.heap.size 9 1 v k (((nodesTx 0 ss).take k).map fun l => Value.string (bT l)) ∧ Below w1.heap.size w1 wr)) (fun _ i _ => ds.length - (intOf i).toNat)
    case atStart => exact ⟨0, rfl, Nat.zero_le _, Lib.hid ⟨HO1.out, HB2.out⟩⟩
    case round =>
      obtain ⟨k, rfl, hk, HR⟩ := hrel
      by_cases hlt : k < ds.length
      · obtain ⟨d, hd⟩ : ∃ d, ds[k]? = some d := ⟨_, List.getElem?_eq_getElem hlt⟩
        obtain ⟨s, hs⟩ : ∃ s, ss[k]? = some s := ⟨_, List.getElem?_eq_getElem (by have := HLN.out.1; omega)⟩
        have c0 := (HR.out.2.cell (p := ⟨g, k, none⟩) HSL.out.1).trans (HSL.out.2 k d hd)
        unfold Nd.ptr at c0
        have C3 := Lib.hid (nodeText_any HV.out (HT.out.below HR.out.2) (HG.out.below (HB1.out.trans (HR.out.2.mono HB1.out.size)) HG.out.size) hd hs)
        have HSK := Lib.hid hs
        clear hd hs
        go_wp2_with fail
        refine C3.out.mono ?_
        rintro e w3 ⟨rfl, hb3⟩
        have hown2 := ownsRow_below HR.out.1 hb3
        have hbw := HR.out.2.trans (hb3.mono HR.out.2.size)
        clear hb3 c0
        go_wp2_with (at_builtin; refine wpList_append_own _ rfl _ _ 68 rfl w1.heap.size 9 i0 (.string ByteArray.empty) 1 16 Tryd.underlying68 hi hz0 hz1 hz2 rfl (by decide) _ _ _ rfl (hown2.alloc _) ⟨w3.heap.size, 0, none⟩ 1 1 [.string (bT (nodeTx k s))] rfl rfl ?c1 ?c2 ?c3 ?c4 ?c5 ?_)
        case c1 => exact cells_new _ _ _
        case c2 => exact one_cell _
        case c3 => unfold maxLen; omega
        case c4 => omega
        case c5 => have := hbw.size; simp only [World.size_alloc]; omega
        · intro v' w4 hown' hgrow _
          have R1 := Lib.hid (show w4.ownsRow w1.heap.size 9 1 v' (k + 1) (((nodesTx 0 ss).take (k + 1)).map fun l => Value.string (bT l)) by rw [nodes_take HSK.out, List.map_take]; exact hown')
          have R2 := Lib.hid ((hbw.alloc hbw.size _).grown hgrow (by have := hbw.size; simp; omega) (fun r hr => (hown2.lt r hr).1))
          clear hown' hgrow hown2 hbw
          go_wp2
          go_roundw
          case rel => exact ⟨k + 1, by go_num, by omega, Lib.hid ⟨R1.out, R2.out⟩⟩
          case measure => simp only [intOf]; omega
      · obtain rfl : k = ds.length := by omega
        obtain ⟨hown, hbr⟩ := HR.out
        have hnl : (nodesTx 0 ss).length = ds.length := by rw [nodesTx_length, HLN.out.1]
        rw [← hnl, List.take_length, show ((nodesTx 0 ss).map fun l => Value.string (bT l)) = ((nodesTx 0 ss).map bT).map Value.string from by rw [List.map_map]; rfl] at hown
        obtain ⟨g2, cap2, rfl, hxl, hgB, hgs, hcp, hcells⟩ := texts_openF hown (by have := HLN.out.2.1; have := HLN.out.1; omega)
        have hsn : ss ≠ [] := by rintro rfl; have := HLN.out.2.1; simp at this
        have J := Tryd.strings_Join g2 0 cap2 ((nodesTx 0 ss).map bT) ⟨#[59]⟩ wr hcells hgs (by rw [hxl, hnl]; omega) (by rw [hxl]; exact hcp) (by
          rw [bTs_data]
          show (Lib.join (nodesTx 0 ss) [59]).length ≤ _
          rw [join_gr hsn]
          have h1 := grTx_len 0 HV.out.texts
          have h2 := HV.out.count.2
          unfold gTx
          omega)
        rw [bTs_data, hxl, hnl] at J
        have HJ := Lib.hid J
        have HJG := Lib.hid (join_gr hsn)
        have HBR := Lib.hid hbr
        clear hown hcells hxl J hbr HR
        rw [hnl]
        go_wp2_with fail
        refine HJ.out.mono ?_
        rintro e w3 ⟨rfl, hb3⟩
        have HB3 := Lib.hid (HB1.out.trans ((HBR.out.trans (hb3.mono HBR.out.size)).mono HB1.out.size))
        clear hb3
        go_wp2
        go_ret
        exact ⟨_, rfl, fun _ => HJG.out, fun h => absurd HV.out h, HB3.out⟩
end Go.Proofs.YtdmaaneilfjfcaaDoor
