/-
  The walks of impl's (*lookup).meantBy, (*tree).moduleAlone and (*lookup).target: what an import brings in, by strong induction on its scope's number.
-/
import Derived.Test.YtppgdigcopkeiaaDoorWFind
import Derived.Test.YtppgdigcopkeiaaDoorWItemAt
import Derived.BigQuiet
import Derived.Deep.RegionHeld3
import Derived.Test.YtppgdigcopkeiaaDoorMean
namespace Go.Proofs.YtppgdigcopkeiaaDoor
open Go Go.RowKit Go.Maps
attribute [local go_sem ↓] field_kind field_name field_scope
theorem field_places (a b : Int) (oa : Option Addr) (n c : Nat) (w : World) : (Instr.field 114 (.agg #[.int .i64 a, .int .i64 b, .slice oa n c]) 2).run Tryd.prog w = .ok (.slice oa n c) w := by kernel_rfl
attribute [local go_sem ↓] field_places
theorem find_node {ss : List Sc} (hv : Valid ss) {w : World} {B L M T M1 M2 : Nat} {v : Value} {ds : List Nd} (hL : LookW w B L M T M1 M2 v ds ss) {s : Nat} {d : Nd} (hd : ds[s]? = some d) (hT : ∀ m ∈ chainP ss s, TargetC B L M T M1 M2 v ds ss m) (nm : ByteArray) :
    Calls Tryd.prog 103 #[.pointer (some ⟨L, 0, none⟩), .pointer (some ⟨d.blk, 0, none⟩), .string nm] w (FindGot (lookP ss s nm) w B L M T M1 M2 v ds ss) :=
  find_walk hv hL nm (some ⟨d.blk, 0, none⟩) (chainP ss s) (by
    have h1 := chain_bound hv.climbs (s := s) (by have := (List.getElem?_eq_some_iff.1 hd).1; have := hL.tree.hold.len; omega)
    have := hv.count.2
    omega) hT fun Bn w0 w' ht hk hc => outward_stopsC 5 (by omega) Bn B T M1 M2 v ds ss w0 w' ht.tree ht.pars hv.climbs ht.hold.len s d hd hk hc
theorem find_none {ss : List Sc} (hv : Valid ss) {w : World} {B L M T M1 M2 : Nat} {v : Value} {ds : List Nd} (hL : LookW w B L M T M1 M2 v ds ss) (nm : ByteArray) :
    Calls Tryd.prog 103 #[.pointer (some ⟨L, 0, none⟩), .pointer none, .string nm] w (FindGot ⟨-1, 0, []⟩ w B L M T M1 M2 v ds ss) :=
  find_walk hv hL nm none [] (by simp) (fun m hm => by simp at hm) fun Bn w0 w' _ _ hc => outward_none 5 Bn ds w0 w' hc
/-- An item looked up by its place. -/
theorem look_at {w : World} {B T M1 M2 : Nat} {v : Value} {ds : List Nd} {ss : List Sc} (hv : Valid ss) (hT : TreeIs w B T M1 M2 v ds ss) {i j : Nat} {c : Sc} {x : It} (hc : ss[i]? = some c) (hx : c.items[j]? = some x) :
    (Instr.lookup 141 (.map (some M1)) (.agg #[.int .i64 (i : Int), .int .i64 (j : Int)]) false).run Tryd.prog w = .ok (.agg #[.int .i64 x.kind, .string x.name, .int .i64 x.scope]) w := by
  have hb := item_bounds hv (q := (i, j)) ⟨c, x, hc, hx⟩
  dsimp only at hb
  have w1 := wf_small (a := i) (by omega)
  have w2 := wf_small (a := j) (by omega)
  obtain ⟨_, hat⟩ := look_item hv.small w1 w2
  obtain ⟨n1, hm⟩ := hT.items
  obtain ⟨v1, ps, hrun, hv1⟩ := hm.lookup (t := 141) (e := 60) placeLaw Tryd.underlying141 (zeroItem _) (itemR_mk zeroIt) (pl_key w1 w2)
  rw [hat] at hv1
  obtain rfl := itemR_eq hv1
  rw [hrun, itemAtP_nat hc, hx]
  rfl
set_option maxRecDepth 100000 in
set_option maxHeartbeats 4000000 in
theorem meantBy_any {ss : List Sc} (hv : Valid ss) {w : World} {B L M T M1 M2 : Nat} {v : Value} {ds : List Nd} (hL : LookW w B L M T M1 M2 v ds ss) {s j : Nat} {c : Sc} {x : It} (hsc : ss[s]? = some c) (hx : c.items[j]? = some x) (hT : ∀ m, m < s → TargetC B L M T M1 M2 v ds ss m) :
    Calls Tryd.prog 156 #[.pointer (some ⟨L, 0, none⟩), .agg #[.int .i64 (s : Int), .int .i64 (j : Int)]] w (PlsLeft (meantP ss s x.name) w B L M T M1 M2 v ds ss) := by
  have hb0 := (Below.refl w.heap.size w).alloc (Nat.le_refl _) (.cells #[.int .i64 (s : Int), .int .i64 (j : Int)] 34)
  have hL1 := hL.left.step hb0
  have hL2 := hL1.step ((Below.refl _ _).drew)
  have RP := Row.new w [.int .i64 (s : Int), .int .i64 (j : Int)] 34
  have hs : s < ss.length := (List.getElem?_eq_some_iff.1 hsc).1
  have hdl := hL.tree.hold.len
  obtain ⟨d, hd⟩ : ∃ d, ds[s]? = some d := ⟨_, List.getElem?_eq_getElem (by omega)⟩
  obtain ⟨g, cap', rfl, hgB, hg, hslot⟩ := hL2.look.tree.tree.slot (by intro e; rw [e] at hd; simp at hd)
  have s0 := hslot s d hd
  unfold Nd.ptr at s0
  have t0 := hL2.look.tree.tree.box.cell (i := 0) (by rfl)
  have t1 := hL2.look.tree.tree.box.cell (i := 1) (by rfl)
  have l0 := hL2.look.box.cell (i := 0) (by rfl)
  have p0 := cell_drew (RP.cell (i := 0) (by rfl))
  have p1 := cell_drew (RP.cell (i := 1) (by rfl))
  have hrun := look_at hv hL2.look.tree hsc hx
  have h6 := hv.count.2
  have HV := Lib.hid hv
  have HD := Lib.hid hd
  have HT := Lib.hid hT
  have HL0 := Lib.hid hL
  have HL1 := Lib.hid hL1
  have HL2 := Lib.hid hL2
  have hol := ownP_length hv s x.name
  clear hv hL hL1 hL2 hd hT hslot hsc hx RP hb0
  go_enter Tryd.func156, Tryd.ntmps156
  go_wp2
  go_region
  clear s0 t0 t1 l0 p0 p1 hrun
  go_wp2_with fail
  refine (own_any HV.out HL2.out.look.tree HD.out x.name).mono ?_
  rintro e w2 ⟨u, rfl, hu, hb2⟩
  obtain ⟨ou, cu, rfl⟩ := ownsRow_slice hu
  have HL3 := Lib.hid (HL2.out.step hb2)
  have HU := Lib.hid (ownsRow_lower hu HL2.out.turns.size)
  clear hu hb2
  by_cases hpos : 0 < (ownP ss s x.name).length
  · have HE : Hid (meantP ss s x.name = ownP ss s x.name) := Lib.hid (meantP_own (isEmpty_pos hpos))
    go_wp2
    go_ret
    exact ⟨_, rfl, by rw [HE.out]; exact HU.out, HL3.out⟩
  · have HEM := Lib.hid (isEmpty_zero hpos)
    have hz0 : (ownP ss s x.name).length = 0 := by omega
    have n1 := ((HL3.out.look.tree.tree.node s d HD.out).2.cell (i := 1) (v := .pointer d.par) (by rfl))
    rcases par_ptr HL3.out.look.tree.pars HV.out.climbs hdl HD.out with ⟨h1, h2⟩ | ⟨p, d2, h1, hlt, h2, h3⟩
    · have HE : Hid (meantP ss s x.name = []) := Lib.hid (meantP_none HEM.out h1)
      have C := Lib.hid (find_none HV.out HL3.out.look x.name)
      rw [h2] at n1
      clear h1 h2 hpos
      go_wp2_with fail
      refine C.out.mono ?_
      rintro e w3 ⟨u3, rfl, hr3, hl3⟩
      obtain ⟨o3, c3, rfl⟩ := ownsRow_slice hr3
      have HR3 := Lib.hid (ownsRow_lower hr3 HL3.out.turns.size)
      have HL4 := Lib.hid (HL3.out.trans hl3)
      clear hr3 hl3
      go_wp2
      go_ret
      exact ⟨_, rfl, by rw [HE.out]; exact HR3.out, HL4.out⟩
    · have HE : Hid (meantP ss s x.name = (lookP ss p x.name).places) := Lib.hid (meantP_par HEM.out h1)
      have C := Lib.hid (find_node HV.out HL3.out.look h2 (fun m hm => HT.out m (by have := chain_le HV.out.climbs p m hm; omega)) x.name)
      rw [h3] at n1
      clear h1 h2 h3 hpos
      go_wp2_with fail
      refine C.out.mono ?_
      rintro e w3 ⟨u3, rfl, hr3, hl3⟩
      obtain ⟨o3, c3, rfl⟩ := ownsRow_slice hr3
      have HR3 := Lib.hid (ownsRow_lower hr3 HL3.out.turns.size)
      have HL4 := Lib.hid (HL3.out.trans hl3)
      clear hr3 hl3
      go_wp2
      go_ret
      exact ⟨_, rfl, by rw [HE.out]; exact HR3.out, HL4.out⟩
set_option maxRecDepth 100000 in
set_option maxHeartbeats 4000000 in
theorem moduleAlone_any {ss : List Sc} (hv : Valid ss) {w : World} {B T M1 M2 : Nat} {v : Value} {ds : List Nd} (hT : TreeIs w B T M1 M2 v ds ss) {oa : Option Addr} {cap : Nat} {l : List (Int × Int)} (hl : l.length < 1000) (hp : ∀ p ∈ l, IsPlace ss p) (ha : ArgPlaces w oa l) :
    Calls Tryd.prog 155 #[.pointer (some ⟨T, 0, none⟩), .slice oa l.length cap] w fun e w' => e = .returned (.int .i64 (aloneP ss l)) ∧ Below w.heap.size w w' := by
  by_cases h1 : l.length = 1
  · obtain ⟨p, rfl⟩ := List.length_eq_one_iff.1 h1
    obtain ⟨i2, j2, c2, y, rfl, hc2, hy2⟩ := hp p (List.mem_singleton.2 rfl)
    have HA : Hid (aloneP ss [((i2 : Int), (j2 : Int))] = y.scope) := Lib.hid (scopeAt_of hc2 hy2)
    obtain ⟨b5, f5, rfl, hb5, q5⟩ := ha.at (by simp)
    obtain ⟨r0, r1⟩ := q5 0 ((i2 : Int), (j2 : Int)) (by rfl)
    rw [Nat.zero_mul, Nat.add_zero] at r0 r1
    have hTd := hT.below ((Below.refl w.heap.size w).drew)
    have e0 := cell_drew r0
    have e1 := cell_drew r1
    have t1 := hTd.tree.box.cell (i := 1) (by rfl)
    have hrun2 := look_at hv hTd hc2 hy2
    clear hv hT hTd hl hp ha q5 r0 r1 hc2 hy2
    simp only [List.length_singleton] at *
    go_enter Tryd.func155, Tryd.ntmps155
    go_wp2
    go_region
    all_goals go_wp2
    all_goals go_ret
    all_goals exact ⟨by rw [HA.out]; rfl, (Below.refl _ _).drew⟩
  · have HA : Hid (aloneP ss l = -1) := Lib.hid (aloneP_not h1)
    have hne : ((l.length : Int) != 1) = true := by simp; omega
    clear hv hT hp ha h1
    go_enter Tryd.func155, Tryd.ntmps155
    go_wp2
    go_ret
    exact ⟨by rw [HA.out]; rfl, Below.refl _ _⟩
set_option maxRecDepth 100000 in
set_option maxHeartbeats 4000000 in
theorem target_step {ss : List Sc} (hv : Valid ss) {B L M T M1 M2 : Nat} {v : Value} {ds : List Nd} {s : Nat} (hT : ∀ m, m < s → TargetC B L M T M1 M2 v ds ss m) : TargetC B L M T M1 M2 v ds ss s := by
  intro j hq w hL
  obtain ⟨c, x, hsc, hx⟩ := hq
  dsimp only at hsc hx
  have HQ : Hid (IsItem ss (s, j)) := Lib.hid ⟨c, x, hsc, hx⟩
  have HTGT := Lib.hid (tgt_of hsc hx)
  have hb0 := (Below.refl w.heap.size w).alloc (Nat.le_refl _) (.cells #[.int .i64 (s : Int), .int .i64 (j : Int)] 34)
  have hL1 := hL.left.step hb0
  have hL2 := hL1.step ((Below.refl _ _).drew)
  have RP := Row.new w [.int .i64 (s : Int), .int .i64 (j : Int)] 34
  have l1 := hL2.look.box.cell (i := 1) (by rfl)
  have p0 := cell_drew (RP.cell (i := 0) (by rfl))
  have p1 := cell_drew (RP.cell (i := 1) (by rfl))
  have hlook := hL2.look.memo.look hv HQ.out
  dsimp only at hlook
  have HV := Lib.hid hv
  have HT := Lib.hid hT
  have HL2 := Lib.hid hL2
  have HRP := Lib.hid RP
  have HSX := Lib.hid (And.intro hsc hx)
  clear hv hL hL1 hL2 hT hsc hx RP hb0
  rcases hlook with hrun | ⟨-, -, -, -, -, z, hrun⟩
  · generalize hz : tgt ss (s, j) = z at hrun
    clear hz
    go_enter Tryd.func121, Tryd.ntmps121
    go_wp2
    go_region
    all_goals go_wp2
    all_goals go_ret
    all_goals exact ⟨rfl, HL2.out⟩
  · go_enter Tryd.func121, Tryd.ntmps121
    go_wp2
    go_region
    clear hrun l1 p0 p1
    have hW0 : Row (w.alloc (.cells #[.int .i64 (s : Int), .int .i64 (j : Int)] 34)).drew w.heap.size 34 [.int .i64 (s : Int), .int .i64 (j : Int)] := HRP.out
    have HTA : Hid (tgt ss (s, j) = aloneP ss (meantP ss s x.name)) := Lib.hid (by rw [HTGT.out, targetP_alone])
    have HML : Hid ((meantP ss s x.name).length < 1000) := Lib.hid (by have := meantP_short HV.out s x.name; omega)
    generalize (w.alloc (.cells #[.int .i64 (s : Int), .int .i64 (j : Int)] 34)).drew = W at hW0 HL2 ⊢
    have HRP2 : Hid (Row W w.heap.size 34 [.int .i64 (s : Int), .int .i64 (j : Int)]) := Lib.hid hW0
    have HLd := Lib.hid (HL2.out.step ((Below.refl _ _).drew))
    have p0 := HRP2.out.cell (i := 0) (by rfl)
    have p1 := HRP2.out.cell (i := 1) (by rfl)
    have l0 := HL2.out.look.box.cell (i := 0) (by rfl)
    have C := Lib.hid (meantBy_any HV.out HLd.out.look HSX.out.1 HSX.out.2 HT.out)
    clear hW0
    go_wp2
    go_cut [7] (fun s7 wx => s7 = .int .i64 (tgt ss (s, j)) ∧ Left w wx B L M T M1 M2 v ds ss ∧ Row wx w.heap.size 34 [.int .i64 (s : Int), .int .i64 (j : Int)])
    case first =>
      go_region_held3 (fun w' => w'.cell? ⟨L, 0, none⟩ = some (.pointer (some ⟨T, 0, none⟩)) ∧ w'.cell? ⟨w.heap.size, 0, none⟩ = some (.int .i64 (s : Int)) ∧ w'.cell? ⟨w.heap.size, 1, none⟩ = some (.int .i64 (j : Int)))
        (first | exact ⟨l0, p0, p1⟩ | exact ⟨cell_drew l0, cell_drew p0, cell_drew p1⟩ | exact ⟨hl4.look.box.cell (i := 0) (by rfl), hp4.cell (i := 0) (by rfl), hp4.cell (i := 1) (by rfl)⟩ | exact ⟨cell_grow hb5 (hl4.look.box.cell (i := 0) (by rfl)), cell_grow hb5 (hp4.cell (i := 0) (by rfl)), cell_grow hb5 (hp4.cell (i := 1) (by rfl))⟩)
        (first | (go_at_call 156; refine C.out.mono ?_; rintro e w4 ⟨u4, rfl, hr4, hl4⟩; obtain ⟨o4, c4, rfl, harg4⟩ := argPlaces_of_owns hr4; have hp4 : Row w4 w.heap.size 34 [.int .i64 (s : Int), .int .i64 (j : Int)] := (hl4.turns.cellsM HLd.out.look.memo).block _ _ _ _ (by exact HRP2.out.lt) (by exact HRP2.out)) | (go_at_call 155; refine (moduleAlone_any HV.out hl4.look.tree HML.out (fun p hp => meant_isPlace p hp) harg4).mono ?_; rintro e w5 ⟨rfl, hb5⟩))
      all_goals go_wp2
      all_goals go_meet
      all_goals exact ⟨by rw [HTA.out], HLd.out.trans (hl4.step hb5), hp4.below hb5 hp4.lt⟩
    case rest =>
      obtain ⟨rfl, hl, hrow⟩ := hcut
      obtain ⟨w5, hrun5, hmemo5, hgrow5⟩ := memo_put HV.out (hl.look.below ((Below.refl _ _).drew)).memo HQ.out (z := tgt ss (s, j)) rfl
      dsimp only at hrun5
      have l5 := cell_drew (hl.look.box.cell (i := 1) (by rfl))
      have p5 := cell_drew (hrow.cell (i := 0) (by rfl))
      have p6 := cell_drew (hrow.cell (i := 1) (by rfl))
      have HL5 : Hid (Left w w5 B L M T M1 M2 v ds ss) := Lib.hid (by
        have h1 := hl.step ((Below.refl _ _).drew)
        have ht := Turns.of_grown (M1 := M) (M2 := M) hgrow5 (.inl rfl)
        exact ⟨h1.look.turned ht hmemo5, h1.turns.trans ht⟩)
      clear hmemo5 hgrow5 hl hrow p0 p1 l0
      go_wp2
      go_region
      all_goals go_wp2
      all_goals go_ret
      all_goals exact ⟨rfl, HL5.out⟩
theorem target_any {ss : List Sc} (hv : Valid ss) {B L M T M1 M2 : Nat} {v : Value} {ds : List Nd} (s : Nat) : TargetC B L M T M1 M2 v ds ss s := by
  induction s using Nat.strongRecOn with
  | _ s ih => exact target_step hv ih
end Go.Proofs.YtppgdigcopkeiaaDoor
