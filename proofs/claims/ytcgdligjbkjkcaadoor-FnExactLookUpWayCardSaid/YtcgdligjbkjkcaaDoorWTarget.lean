/-
  The walks of impl's (*lookup).meantBy and (*lookup).target: what an import brings in, by strong induction on its scope's number.
-/
import Derived.Test.YtcgdligjbkjkcaaDoorWFind
import Derived.Test.YtcgdligjbkjkcaaDoorWItemAt
import Derived.BigQuiet
namespace Go.Proofs.YtcgdligjbkjkcaaDoor
open Go Go.RowKit Go.Maps
attribute [local go_sem ↓] field_kind field_name field_scope
theorem field_places (a b : Int) (oa : Option Addr) (n c : Nat) (w : World) : (Instr.field 48 (.agg #[.int .i64 a, .int .i64 b, .slice oa n c]) 2).run Tryd.prog w = .ok (.slice oa n c) w := by kernel_rfl
attribute [local go_sem ↓] field_places
theorem find_node {ss : List Sc} (hv : Valid ss) {w : World} {B L M T M1 M2 : Nat} {v : Value} {ds : List Nd} (hL : LookW w B L M T M1 M2 v ds ss) {s : Nat} {d : Nd} (hd : ds[s]? = some d) (hT : ∀ m ∈ chainP ss s, TargetC B L M T M1 M2 v ds ss m) (nm : ByteArray) :
    Calls Tryd.prog 14 #[.pointer (some ⟨L, 0, none⟩), .pointer (some ⟨d.blk, 0, none⟩), .string nm] w (FindGot (lookP ss s nm) w B L M T M1 M2 v ds ss) :=
  find_walk hv hL nm (some ⟨d.blk, 0, none⟩) (chainP ss s) (by
    have h1 := chain_bound hv.climbs (s := s) (by have := (List.getElem?_eq_some_iff.1 hd).1; have := hL.tree.hold.len; omega)
    have := hv.count.2
    omega) hT fun Bn w0 w' ht hk hc => outward_stopsC 5 (by omega) Bn B T M1 M2 v ds ss w0 w' ht.tree ht.pars hv.climbs ht.hold.len s d hd hk hc
theorem find_none {ss : List Sc} (hv : Valid ss) {w : World} {B L M T M1 M2 : Nat} {v : Value} {ds : List Nd} (hL : LookW w B L M T M1 M2 v ds ss) (nm : ByteArray) :
    Calls Tryd.prog 14 #[.pointer (some ⟨L, 0, none⟩), .pointer none, .string nm] w (FindGot ⟨-1, 0, []⟩ w B L M T M1 M2 v ds ss) :=
  find_walk hv hL nm none [] (by simp) (fun m hm => by simp at hm) fun Bn w0 w' _ _ hc => outward_none 5 Bn ds w0 w' hc
/-- An item looked up by its place. -/
theorem look_at {w : World} {B T M1 M2 : Nat} {v : Value} {ds : List Nd} {ss : List Sc} (hv : Valid ss) (hT : TreeIs w B T M1 M2 v ds ss) {i j : Nat} {c : Sc} {x : It} (hc : ss[i]? = some c) (hx : c.items[j]? = some x) :
    (Instr.lookup 106 (.map (some M1)) (.agg #[.int .i64 (i : Int), .int .i64 (j : Int)]) false).run Tryd.prog w = .ok (.agg #[.int .i64 x.kind, .string x.name, .int .i64 x.scope]) w := by
  have hb := item_bounds hv (q := (i, j)) ⟨c, x, hc, hx⟩
  dsimp only at hb
  have w1 := wf_small (a := i) (by omega)
  have w2 := wf_small (a := j) (by omega)
  obtain ⟨_, hat⟩ := look_item hv.small w1 w2
  obtain ⟨n1, hm⟩ := hT.items
  obtain ⟨v1, ps, hrun, hv1⟩ := hm.lookup (t := 106) (e := 83) placeLaw Tryd.underlying106 (zeroItem _) (itemR_mk zeroIt) (pl_key w1 w2)
  rw [hat] at hv1
  obtain rfl := itemR_eq hv1
  rw [hrun, itemAtP_nat hc, hx]
  rfl
set_option maxRecDepth 100000 in
set_option maxHeartbeats 4000000 in
theorem meantBy_any {ss : List Sc} (hv : Valid ss) {w : World} {B L M T M1 M2 : Nat} {v : Value} {ds : List Nd} (hL : LookW w B L M T M1 M2 v ds ss) {s j : Nat} {c : Sc} {x : It} (hsc : ss[s]? = some c) (hx : c.items[j]? = some x) (hT : ∀ m, m < s → TargetC B L M T M1 M2 v ds ss m) :
    Calls Tryd.prog 55 #[.pointer (some ⟨L, 0, none⟩), .agg #[.int .i64 (s : Int), .int .i64 (j : Int)]] w (PlsLeft (meantP ss s x.name) w B L M T M1 M2 v ds ss) := by
  have hb0 := (Below.refl w.heap.size w).alloc (Nat.le_refl _) (.cells #[.int .i64 (s : Int), .int .i64 (j : Int)] 87)
  have hL1 := hL.left.step hb0
  have hL2 := hL1.step ((Below.refl _ _).drew)
  have RP := Row.new w [.int .i64 (s : Int), .int .i64 (j : Int)] 87
  have hs : s < ss.length := (List.getElem?_eq_some_iff.1 hsc).1
  have hdl := hL.tree.hold.len
  obtain ⟨d, hd⟩ : ∃ d, ds[s]? = some d := ⟨_, List.getElem?_eq_getElem (by omega)⟩
  obtain ⟨g, cap', rfl, hgB, hg, hslot⟩ := hL2.look.tree.tree.slot (by intro e; rw [e] at hd; simp at hd)
  have s0 := hslot s d hd
  unfold Nd.ptr at s0
  have t0 := hL2.look.tree.tree.box.cell (i := 0) (by rfl)
  have t1 := hL2.look.tree.tree.box.cell (i := 1) (by rfl)
  have l0 := hL2.look.box.cell (i := 0) (by rfl)
  have p0 := cell_drew (RP.cell (i := 0) (by rfl))
  have p1 := cell_drew (RP.cell (i := 1) (by rfl))
  have hrun := look_at hv hL2.look.tree hsc hx
  have h6 := hv.count.2
  have HV := Lib.hid hv
  have HD := Lib.hid hd
  have HT := Lib.hid hT
  have HL0 := Lib.hid hL
  have HL1 := Lib.hid hL1
  have HL2 := Lib.hid hL2
  have hol := ownP_length hv s x.name
  clear hv hL hL1 hL2 hd hT hslot hsc hx RP hb0
  go_enter Tryd.func55, Tryd.ntmps55
  go_wp2
  go_region
  clear s0 t0 t1 l0 p0 p1 hrun
  go_wp2_with fail
  refine (own_any HV.out HL2.out.look.tree HD.out x.name).mono ?_
  rintro e w2 ⟨u, rfl, hu, hb2⟩
  obtain ⟨ou, cu, rfl⟩ := ownsRow_slice hu
  have HL3 := Lib.hid (HL2.out.step hb2)
  have HU := Lib.hid (ownsRow_lower hu HL2.out.turns.size)
  clear hu hb2
  by_cases hpos : 0 < (ownP ss s x.name).length
  · have HE : Hid (meantP ss s x.name = ownP ss s x.name) := Lib.hid (meantP_own (isEmpty_pos hpos))
    go_wp2
    go_ret
    exact ⟨_, rfl, by rw [HE.out]; exact HU.out, HL3.out⟩
  · have HEM := Lib.hid (isEmpty_zero hpos)
    have hz0 : (ownP ss s x.name).length = 0 := by omega
    have n1 := ((HL3.out.look.tree.tree.node s d HD.out).2.cell (i := 1) (v := .pointer d.par) (by rfl))
    rcases par_ptr HL3.out.look.tree.pars HV.out.climbs hdl HD.out with ⟨h1, h2⟩ | ⟨p, d2, h1, hlt, h2, h3⟩
    · have HE : Hid (meantP ss s x.name = []) := Lib.hid (meantP_none HEM.out h1)
      have C := Lib.hid (find_none HV.out HL3.out.look x.name)
      rw [h2] at n1
      clear h1 h2 hpos
      go_wp2_with fail
      refine C.out.mono ?_
      rintro e w3 ⟨u3, rfl, hr3, hl3⟩
      obtain ⟨o3, c3, rfl⟩ := ownsRow_slice hr3
      have HR3 := Lib.hid (ownsRow_lower hr3 HL3.out.turns.size)
      have HL4 := Lib.hid (HL3.out.trans hl3)
      clear hr3 hl3
      go_wp2
      go_ret
      exact ⟨_, rfl, by rw [HE.out]; exact HR3.out, HL4.out⟩
    · have HE : Hid (meantP ss s x.name = (lookP ss p x.name).places) := Lib.hid (meantP_par HEM.out h1)
      have C := Lib.hid (find_node HV.out HL3.out.look h2 (fun m hm => HT.out m (by have := chain_le HV.out.climbs p m hm; omega)) x.name)
      rw [h3] at n1
      clear h1 h2 h3 hpos
      go_wp2_with fail
      refine C.out.mono ?_
      rintro e w3 ⟨u3, rfl, hr3, hl3⟩
      obtain ⟨o3, c3, rfl⟩ := ownsRow_slice hr3
      have HR3 := Lib.hid (ownsRow_lower hr3 HL3.out.turns.size)
      have HL4 := Lib.hid (HL3.out.trans hl3)
      clear hr3 hl3
      go_wp2
      go_ret
      exact ⟨_, rfl, by rw [HE.out]; exact HR3.out, HL4.out⟩
set_option maxRecDepth 100000 in
set_option maxHeartbeats 4000000 in
theorem target_step {ss : List Sc} (hv : Valid ss) {B L M T M1 M2 : Nat} {v : Value} {ds : List Nd} {s : Nat} (hT : ∀ m, m < s → TargetC B L M T M1 M2 v ds ss m) : TargetC B L M T M1 M2 v ds ss s := by
  intro j hq w hL
  obtain ⟨c, x, hsc, hx⟩ := hq
  dsimp only at hsc hx
  have HQ : Hid (IsItem ss (s, j)) := Lib.hid ⟨c, x, hsc, hx⟩
  have HTGT := Lib.hid (tgt_of hsc hx)
  have hb0 := (Below.refl w.heap.size w).alloc (Nat.le_refl _) (.cells #[.int .i64 (s : Int), .int .i64 (j : Int)] 87)
  have hL1 := hL.left.step hb0
  have hL2 := hL1.step ((Below.refl _ _).drew)
  have RP := Row.new w [.int .i64 (s : Int), .int .i64 (j : Int)] 87
  have l1 := hL2.look.box.cell (i := 1) (by rfl)
  have p0 := cell_drew (RP.cell (i := 0) (by rfl))
  have p1 := cell_drew (RP.cell (i := 1) (by rfl))
  have hlook := hL2.look.memo.look hv HQ.out
  dsimp only at hlook
  have HV := Lib.hid hv
  have HT := Lib.hid hT
  have HL2 := Lib.hid hL2
  have HRP := Lib.hid RP
  have HSX := Lib.hid (And.intro hsc hx)
  clear hv hL hL1 hL2 hT hsc hx RP hb0
  rcases hlook with hrun | ⟨-, -, -, -, -, z, hrun⟩
  · generalize hz : tgt ss (s, j) = z at hrun
    clear hz
    go_enter Tryd.func53, Tryd.ntmps53
    go_wp2
    go_region
    all_goals go_wp2
    all_goals go_ret
    all_goals exact ⟨rfl, HL2.out⟩
  · go_enter Tryd.func53, Tryd.ntmps53
    go_wp2
    go_region
    clear hrun l1 p0 p1
    have HRP2 : Hid (Row (w.alloc (.cells #[.int .i64 (s : Int), .int .i64 (j : Int)] 87)).drew w.heap.size 87 [.int .i64 (s : Int), .int .i64 (j : Int)]) := Lib.hid HRP.out
    have p0 := HRP2.out.cell (i := 0) (by rfl)
    have p1 := HRP2.out.cell (i := 1) (by rfl)
    have C := Lib.hid (meantBy_any HV.out HL2.out.look HSX.out.1 HSX.out.2 HT.out)
    go_wp2_with fail
    refine C.out.mono ?_
    rintro e w3 ⟨u3, rfl, hr3, hl3⟩
    obtain ⟨o3, c3, rfl, harg⟩ := argPlaces_of_owns hr3
    have HL3 := Lib.hid (HL2.out.trans hl3)
    have HA3 := Lib.hid harg
    have HP3 : Hid (Row w3 w.heap.size 87 [.int .i64 (s : Int), .int .i64 (j : Int)]) := Lib.hid ((hl3.turns.cellsM HL2.out.look.memo).block _ _ _ _ HRP2.out.lt HRP2.out)
    clear hr3 hl3 harg p0 p1
    have hml : (meantP ss s x.name).length ≤ 25 := by
      unfold meantP meantF
      split
      · split
        · simp
        · exact lookF_length HV.out _ _
      · have := ownP_length HV.out s x.name; omega
    by_cases h1 : (meantP ss s x.name).length = 1
    · obtain ⟨p, hp⟩ := List.length_eq_one_iff.1 h1
      obtain ⟨i2, j2, c2, y, rfl, hc2, hy2⟩ := meant_isPlace p (by rw [hp]; exact List.mem_singleton.2 rfl)
      have HTG0 : Hid (tgt ss (s, j) = y.scope) := Lib.hid (by rw [HTGT.out, targetP_one hp, scopeAt_of hc2 hy2])
      obtain ⟨b5, f5, rfl, hb5, q5⟩ := HA3.out.at (by omega)
      obtain ⟨r0, r1⟩ := q5 0 ((i2 : Int), (j2 : Int)) (by rw [hp]; rfl)
      rw [Nat.zero_mul, Nat.add_zero] at r0 r1
      have hLd := HL3.out.step ((Below.refl _ _).drew)
      have e0 := cell_drew r0
      have e1 := cell_drew r1
      have l0 := hLd.look.box.cell (i := 0) (by rfl)
      have t1 := hLd.look.tree.tree.box.cell (i := 1) (by rfl)
      have hrun2 := look_at HV.out hLd.look.tree hc2 hy2
      have HLd := Lib.hid hLd
      have HPd : Hid (Row w3.drew w.heap.size 87 [.int .i64 (s : Int), .int .i64 (j : Int)]) := Lib.hid HP3.out
      clear q5 r0 r1 hc2 hy2 hp hLd
      rw [h1]
      go_wp2
      go_region
      clear e0 e1 l0 t1 hrun2
      all_goals skip

      obtain ⟨w5, hrun5, hmemo5, hgrow5⟩ := memo_put HV.out (HLd.out.look.below ((Below.refl _ _).drew)).memo HQ.out (z := y.scope) (HTG0.out).symm
      dsimp only at hrun5
      have R5 := HLd.out.look.box
      have l5 := cell_drew (R5.cell (i := 1) (by rfl))
      have p5 := cell_drew (HPd.out.cell (i := 0) (by rfl))
      have p6 := cell_drew (HPd.out.cell (i := 1) (by rfl))
      have HL5 : Hid (Left w w5 B L M T M1 M2 v ds ss) := Lib.hid (by
        have h1 := HLd.out.step ((Below.refl _ _).drew)
        have ht := Turns.of_grown (M1 := M) (M2 := M) hgrow5 (.inl rfl)
        exact ⟨h1.look.turned ht hmemo5, h1.turns.trans ht⟩)
      have HTG : Hid (tgt ss (s, j) = y.scope) := Lib.hid (HTG0.out)
      clear hmemo5 hgrow5 R5
      go_wp2
      go_region
      all_goals go_wp2
      all_goals go_ret
      all_goals exact ⟨by rw [HTG.out]; rfl, HL5.out⟩
    · have HTG0 : Hid (tgt ss (s, j) = -1) := Lib.hid (by rw [HTGT.out, targetP_not h1])
      have hne : (((meantP ss s x.name).length : Int) == 1) = false := by simp; omega

      obtain ⟨w5, hrun5, hmemo5, hgrow5⟩ := memo_put HV.out (HL3.out.look.below ((Below.refl _ _).drew)).memo HQ.out (z := (-1)) (HTG0.out).symm
      dsimp only at hrun5
      have R5 := HL3.out.look.box
      have l5 := cell_drew (R5.cell (i := 1) (by rfl))
      have p5 := cell_drew (HP3.out.cell (i := 0) (by rfl))
      have p6 := cell_drew (HP3.out.cell (i := 1) (by rfl))
      have HL5 : Hid (Left w w5 B L M T M1 M2 v ds ss) := Lib.hid (by
        have h1 := HL3.out.step ((Below.refl _ _).drew)
        have ht := Turns.of_grown (M1 := M) (M2 := M) hgrow5 (.inl rfl)
        exact ⟨h1.look.turned ht hmemo5, h1.turns.trans ht⟩)
      have HTG : Hid (tgt ss (s, j) = (-1)) := Lib.hid (HTG0.out)
      clear hmemo5 hgrow5 R5
      go_wp2
      go_region
      all_goals go_wp2
      all_goals go_ret
      all_goals exact ⟨by rw [HTG.out]; rfl, HL5.out⟩
theorem target_any {ss : List Sc} (hv : Valid ss) {B L M T M1 M2 : Nat} {v : Value} {ds : List Nd} (s : Nat) : TargetC B L M T M1 M2 v ds ss s := by
  induction s using Nat.strongRecOn with
  | _ s ih => exact target_step hv ih
end Go.Proofs.YtcgdligjbkjkcaaDoor
