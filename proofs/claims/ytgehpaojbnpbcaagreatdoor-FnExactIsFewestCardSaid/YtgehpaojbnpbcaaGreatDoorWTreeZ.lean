/-
  The walks of impl's isName, isParent, addNode over a tree in memory.
-/
import Derived.Test.YtgehpaojbnpbcaaGreatDoorBaseZ
import Derived.Test.YtgehpaojbnpbcaaGreatDoorWSpecValidZ
import Derived.LaidEqlPtr
namespace Go.Proofs.YtgehpaojbnpbcaaGreatDoor
open Go Go.RowKit
theorem isName_any (s : ByteArray) (w : World) :
    Calls Tryz.prog 103 #[.string s] w fun e w' => e = .returned (.bool (nameB s)) ∧ w' = w := by
  by_cases h : s.size = 1
  · have h0 : 0 < s.size := by omega
    have H := nameB_one h h0
    have hbd : (((s[0]'h0).toNat : Nat) : Int) < 256 := by have := (s[0]'h0).toNat_lt; omega
    have h1 : (((s.size : Nat) : Int) == 1) = true := by rw [beq_iff_eq]; omega
    clear h
    by_cases ha : 97 ≤ (s[0]'h0).toNat
    · by_cases hz : (s[0]'h0).toNat ≤ 122
      · have HH : Hid (nameB s = true) := Lib.hid (by rw [H]; simp [inB]; omega)
        have ha' : decide ((((s[0]'h0).toNat : Nat) : Int) ≥ 97) = true := by simp; omega
        have hz' : decide ((((s[0]'h0).toNat : Nat) : Int) ≤ 122) = true := by simp; omega
        clear H
        go_enter Tryz.func103, Tryz.ntmps103
        go_wp2
        go_ret
        exact ⟨by rw [HH.out]; rfl, rfl⟩
      · have HH : Hid (nameB s = false) := Lib.hid (by rw [H]; simp [inB]; omega)
        have ha' : decide ((((s[0]'h0).toNat : Nat) : Int) ≥ 97) = true := by simp; omega
        have hz' : decide ((((s[0]'h0).toNat : Nat) : Int) ≤ 122) = false := by simp; omega
        clear H
        go_enter Tryz.func103, Tryz.ntmps103
        go_wp2
        go_ret
        exact ⟨by rw [HH.out]; rfl, rfl⟩
    · have HH : Hid (nameB s = false) := Lib.hid (by rw [H]; simp [inB]; omega)
      have ha' : decide ((((s[0]'h0).toNat : Nat) : Int) ≥ 97) = false := by simp; omega
      clear H
      go_enter Tryz.func103, Tryz.ntmps103
      go_wp2
      go_ret
      exact ⟨by rw [HH.out]; rfl, rfl⟩
  · have H := Lib.hid (nameB_not h)
    have h1 : (((s.size : Nat) : Int) == 1) = false := by rw [beq_eq_false_iff_ne]; omega
    clear h
    go_enter Tryz.func103, Tryz.ntmps103
    go_wp2
    go_ret
    exact ⟨by rw [H.out]; rfl, rfl⟩
theorem run_eql_none_some {P : Program} (w : World) {tp te : TypeId} (a : Addr) (hp : P.underlying tp = some (.pointer te)) :
    (binOp .eql tp (.pointer none) (.pointer (some a))).run P w = .ok (.bool false) w := by
  have h : ∀ d : Nat, (Op.equalIn (d + 1) tp (.pointer none) (.pointer (some a))).run P w = .ok false w := fun d => by
    simp [Op.equalIn, run_underlying hp]
  simp only [binOp]
  simp [Op.equal, Op.maxDepth, h 9999]
theorem infoNode : (Tryz.prog.info? 193).map (fun i => (i.zero.isSome, i.size)) = some (true, 3) := by kernel_rfl
/-- Parents are compared as pointers are. -/
theorem eql_par {w : World} {B T M1 M2 : Nat} {v : Value} {ds : List Nd} (h : Tree w B T M1 M2 v ds) {p m : Nat} {d c : Nd} (hd : ds[p]? = some d) (hc : ds[m]? = some c) (w' : World) (hw : w'.heap = w.heap) :
    (binOp .eql 191 (.pointer c.par) (.pointer (some ⟨d.blk, 0, none⟩))).run Tryz.prog w' = .ok (.bool (decide (c.par = some ⟨d.blk, 0, none⟩))) w' := by
  obtain ⟨i0, hi, hi2⟩ := Option.map_eq_some_iff.1 infoNode
  simp only [Prod.mk.injEq] at hi2
  by_cases he : c.par = some ⟨d.blk, 0, none⟩
  · rw [he, decide_eq_true rfl]
    exact run_eql_ptr_same w' _ Tryz.underlying191 hi
  · rw [decide_eq_false he]
    rcases h.pars m c hc with h1 | ⟨j, e, _, hj, h1⟩
    · rw [h1]; exact run_eql_none_some w' _ Tryz.underlying191
    · rw [h1] at he ⊢
      refine run_eql_ptr_other w' Tryz.underlying191 hi (by rw [hi2.2]; decide) (fun h2 => he (by rw [h2])) (ca := (e.cells j).toArray) (cb := (d.cells p).toArray) (ta := 193) (tb := 193) ?_ ?_
      · exact (h.node j e hj).2.same (by rw [hw])
      · exact (h.node p d hd).2.same (by rw [hw])
/-- Whether the node of a number, if there is one, has this parent. -/
def parB (ds : List Nd) (n : Int) (a : Option Addr) : Bool := decide (0 ≤ n) && (match ds[n.toNat]? with | some c => decide (c.par = a) | none => false)
set_option maxRecDepth 100000 in
theorem isParent_any {w : World} {B T M1 M2 : Nat} {v : Value} {ds : List Nd} (h : Tree w B T M1 M2 v ds) (p : Nat) (d : Nd) (hd : ds[p]? = some d) (n : Int) :
    Calls Tryz.prog 124 #[.pointer (some ⟨T, 0, none⟩), .int .i64 (p : Int), .int .i64 n] w fun e w' => e = .returned (.bool (parB ds n (some ⟨d.blk, 0, none⟩))) ∧ Below w.heap.size w w' ∧ w'.heap = w.heap := by
  have hne : ds ≠ [] := by rintro rfl; simp at hd
  obtain ⟨g, cap, rfl, hB, hg, hs⟩ := h.slot hne
  have hp := (List.getElem?_eq_some_iff.1 hd).1
  have b0 : w.cell? ⟨T, 0, none⟩ = some (.slice (some ⟨g, 0, none⟩) ds.length cap) := h.box.cell (by simp)
  have s1 := hs p d hd
  by_cases h0 : n < 0
  · have HR : Hid (parB ds n (some ⟨d.blk, 0, none⟩) = false) := Lib.hid (by unfold parB; rw [decide_eq_false (by omega)]; rfl)
    have hd0 : decide (n < 0) = true := by simpa using h0
    clear h hd hs
    go_enter Tryz.func124, Tryz.ntmps124
    go_wp2
    go_ret
    exact ⟨by rw [HR.out]; rfl, Below.refl _ _, rfl⟩
  · obtain ⟨m, rfl⟩ : ∃ m : Nat, n = (m : Int) := ⟨n.toNat, by omega⟩
    have hd0 : decide (((m : Nat) : Int) < 0) = false := by simp
    by_cases h1 : m < ds.length
    · obtain ⟨c, hc⟩ : ∃ c, ds[m]? = some c := ⟨_, List.getElem?_eq_getElem h1⟩
      have s2 := hs m c hc
      have c1 : w.cell? ⟨c.blk, 1, none⟩ = some (.pointer c.par) := (h.node m c hc).2.cell (by simp [Nd.cells])
      have HR : Hid (parB ds (m : Int) (some ⟨d.blk, 0, none⟩) = decide (c.par = some ⟨d.blk, 0, none⟩)) := Lib.hid (by simp [parB, hc])
      have hd1 : decide (((ds.length : Nat) : Int) ≤ ((m : Nat) : Int)) = false := by simp; omega
      have hq := eql_par h hd hc w.drew rfl
      generalize hb : decide (c.par = some ⟨d.blk, 0, none⟩) = bb at hq HR
      clear hb
      unfold Nd.ptr at s1 s2
      clear h hd hs hc
      go_enter Tryz.func124, Tryz.ntmps124
      go_wp2
      go_region
      go_wp2
      go_ret
      exact ⟨by rw [HR.out]; rfl, (Below.refl _ _).drew, rfl⟩
    · have HR : Hid (parB ds (m : Int) (some ⟨d.blk, 0, none⟩) = false) := Lib.hid (by unfold parB; simp only [Int.toNat_natCast, List.getElem?_eq_none (Nat.le_of_not_lt h1)]; simp)
      have hd1 : decide (((ds.length : Nat) : Int) ≤ ((m : Nat) : Int)) = true := by simp; omega
      clear h hd hs
      go_enter Tryz.func124, Tryz.ntmps124
      go_wp2
      go_ret
      exact ⟨by rw [HR.out]; rfl, Below.refl _ _, rfl⟩
/-- What an error's variable holds. -/
theorem infoPtr : (Tryz.prog.info? 191).map (fun i => (i.zero, i.size, i.bytes)) = some (some (.pointer none), 1, 8) := by kernel_rfl
/-- The parent that a new node is given. -/
def newPar (ds : List Nd) (p : Int) : Option Addr := if p = -1 then none else (ds[p.toNat]?).map fun d => ⟨d.blk, 0, none⟩
set_option maxRecDepth 100000 in
set_option maxHeartbeats 4000000 in
theorem addNode_any {w : World} {B T M1 M2 : Nat} {v : Value} {ds : List Nd} (h : Tree w B T M1 M2 v ds) (hk : ds.length ≤ 6) (hg : IsErr w 4) (hg2 : IsErr w 5) (hB : B ≤ w.heap.size) (sp : Int) (xs : List It) (hs : xs.length ≤ 2 ^ 20) (oi : Option Addr) (ci : Nat) :
    Calls Tryz.prog 110 #[.pointer (some ⟨T, 0, none⟩), .agg #[.int .i64 sp, .slice oi xs.length ci]] w fun e w' =>
      (scopeB ds.length ⟨sp, xs⟩ = false ∧ (∃ tp p, e = .returned (.iface tp p)) ∧ Below B w w') ∨
      (scopeB ds.length ⟨sp, xs⟩ = true ∧ e = .returned .nilIface ∧ Below B w w' ∧ (∀ g t vs, Row w g t vs → t ≠ 180 → t ≠ 191 → Row w' g t vs) ∧ ∃ v' b, Tree w' B T M1 M2 v' (ds ++ [⟨b, newPar ds sp, .slice oi xs.length ci⟩])) := by
  obtain ⟨e1, p1, g1⟩ := hg
  obtain ⟨e2, p2, g2⟩ := hg2
  have HH := Lib.hid h
  have hb0 := (Below.refl _ w).alloc (Nat.le_refl _) (.cells #[.int .i64 sp, .slice oi xs.length ci] 67)
  have HB0 := Lib.hid (hb0.mono hB)
  have g1' := (hb0.cell (p := ⟨4, 0, none⟩) (World.block_lt_of_cell? w _ g1)).trans g1
  have g2' := (hb0.cell (p := ⟨5, 0, none⟩) (World.block_lt_of_cell? w _ g2)).trans g2
  have hbx := (h.below hb0 (Nat.le_refl _)).box
  obtain ⟨oa, cap, rfl⟩ := h.nil_v
  have hc0 := hbx.cell (i := 0) (by rfl)
  clear g1 g2 hb0 h
  by_cases h5 : xs.length ≤ 5
  case neg =>
    have h5' : (5 : Int) < ((xs.length : Nat) : Int) := by omega
    have HR : Hid (scopeB ds.length ⟨sp, xs⟩ = false) := Lib.hid (by simp [scopeB, h5])
    go_enter Tryz.func110, Tryz.ntmps110
    go_wp2
    go_ret
    exact .inl ⟨HR.out, ⟨_, _, rfl⟩, HB0.out⟩
  have h5' : ((xs.length : Nat) : Int) ≤ 5 := by omega
  go_enter Tryz.func110, Tryz.ntmps110
  go_wp2
  have hc0' : (w.alloc (.cells #[.int .i64 sp, .slice oi xs.length ci] 67)).drew.cell? ⟨T, 0, none⟩ = some (.slice oa ds.length cap) := hc0
  go_region
  go_step
  go_step
  go_step
  go_cut [4] (fun s4 wx => s4 = .nilIface ∧ scopeB ds.length ⟨sp, xs⟩ = true ∧ wx.heap = ((w.alloc (.cells #[.int .i64 sp, .slice oi xs.length ci] 67)).alloc (.cells #[.int .i64 ds.length, .pointer (newPar ds sp), .slice oi xs.length ci] 193)).heap ∧ Below B w wx)
  case first =>
    have hpr : ∀ p, sp = (p : Nat) → p < ds.length → ∃ d, ds[p]? = some d := fun p _ hp => ⟨_, List.getElem?_eq_getElem hp⟩
    have hd5 : decide (xs.length ≤ 5) = true := by simpa using h5
    have HB1 : Hid (Below B w ((w.alloc (.cells #[.int .i64 sp, .slice oi xs.length ci] 67)).alloc (.cells #[.int .i64 ds.length, .pointer none, .slice oi xs.length ci] 193)).drew) := Lib.hid ((HB0.out.alloc (by simp; omega) _).drew)
    have g3 : ((w.alloc (.cells #[.int .i64 sp, .slice oi xs.length ci] 67)).alloc (.cells #[.int .i64 ds.length, .pointer none, .slice oi xs.length ci] 193)).drew.drew.cell? ⟨5, 0, none⟩ = some (.iface e2 p2) :=
      ((((Below.refl _ _).alloc (Nat.le_refl _) _).drew.drew).cell (p := ⟨5, 0, none⟩) (World.block_lt_of_cell? _ _ g2')).trans g2'
    by_cases hk0 : ds.length = 0
    · have e0 : (((ds.length : Nat) : Int) == 0) = true := by rw [beq_iff_eq]; omega
      have HL := Lib.hid hk0
      by_cases hp : (sp == -1) = true
      · have HS : Hid (scopeB ds.length ⟨sp, xs⟩ = true) := Lib.hid (by rw [hk0]; simp [scopeB, h5, parentB]; simpa using hp)
        have HN : Hid (newPar ds sp = none) := Lib.hid (by simp at hp; simp [newPar, hp])
        clear hpr hk0
        go_wp2
        go_meet
        exact ⟨rfl, HS.out, by rw [HN.out]; rfl, HB1.out⟩
      · have hp' : (sp == -1) = false := by simpa using hp
        have HS : Hid (scopeB ds.length ⟨sp, xs⟩ = false) := Lib.hid (by rw [hk0]; simp [scopeB, parentB, hp'])
        clear hp hpr hk0
        by_cases hge : 0 ≤ sp
        · have hge' : decide (sp ≥ 0) = true := by simpa using hge
          have hlt' : decide (sp < ((ds.length : Nat) : Int)) = false := by have := HL.out; simp; omega
          go_wp2
          go_region
          go_wp2
          go_ret
          exact .inl ⟨HS.out, ⟨_, _, rfl⟩, HB1.out.drew⟩
        · have hge' : decide (sp ≥ 0) = false := by simpa using hge
          go_wp2
          go_region
          go_wp2
          go_ret
          exact .inl ⟨HS.out, ⟨_, _, rfl⟩, HB1.out.drew⟩
    · have e0 : (((ds.length : Nat) : Int) == 0) = false := by rw [beq_eq_false_iff_ne]; omega
      have HSB : Hid (scopeB ds.length ⟨sp, xs⟩ = inB sp 0 ((ds.length : Int) - 1)) := Lib.hid (by simp [scopeB, h5, parentB, hk0])
      by_cases hge : 0 ≤ sp
      · have hge' : decide (sp ≥ 0) = true := by simpa using hge
        by_cases hlt : sp < ((ds.length : Nat) : Int)
        · have hlt' : decide (sp < ((ds.length : Nat) : Int)) = true := by simpa using hlt
          have HS : Hid (scopeB ds.length ⟨sp, xs⟩ = true) := Lib.hid (by rw [HSB.out]; simp [inB]; omega)
          obtain ⟨p, rfl⟩ : ∃ p : Nat, sp = (p : Int) := ⟨sp.toNat, by omega⟩
          have hpk : p < ds.length := by omega
          obtain ⟨d, hd⟩ := hpr p rfl hpk
          have HN : Hid (newPar ds (p : Int) = some ⟨d.blk, 0, none⟩) := Lib.hid (by unfold newPar; rw [if_neg (by omega), Int.toNat_natCast, hd]; rfl)
          have HW := Lib.hid (((Below.refl _ w).alloc (Nat.le_refl _) (.cells #[.int .i64 p, .slice oi xs.length ci] 67)).alloc (by simp) (.cells #[.int .i64 ds.length, .pointer none, .slice oi xs.length ci] 193))
          obtain ⟨g, cap', hv, hgB, hgl, hsl⟩ := HH.out.slot (by rintro rfl; simp at hk0)
          cases hv
          have t0 := (HW.out.drew.drew.drew.cell (p := ⟨T, 0, none⟩) HH.out.box.lt).trans (HH.out.box.cell (i := 0) (by rfl))
          have t1 := (HW.out.drew.drew.drew.cell (p := ⟨g, p, none⟩) hgl).trans (hsl p d hd)
          unfold Nd.ptr at t1
          have n1 : ((w.alloc (.cells #[.int .i64 p, .slice oi xs.length ci] 67)).alloc (.cells #[.int .i64 ds.length, .pointer none, .slice oi xs.length ci] 193)).drew.drew.drew.cell? ⟨w.heap.size + 1, 1, none⟩ = some (.pointer none) := by simp [go_sem]
          clear hpr hk0 hge hlt hsl hd
          go_wp2
          go_region
          go_wp2
          go_region
          go_wp2
          go_meet
          refine ⟨rfl, HS.out, ?_, ?_⟩
          · rw [HN.out]
            rfl
          · exact ((HB0.out.alloc (by simp; omega) _).drew).drew.drew
        · have hlt' : decide (sp < ((ds.length : Nat) : Int)) = false := by simpa using hlt
          have HS : Hid (scopeB ds.length ⟨sp, xs⟩ = false) := Lib.hid (by rw [HSB.out]; simp [inB]; omega)
          clear hpr hk0 hlt
          go_wp2
          go_region
          go_wp2
          go_ret
          exact .inl ⟨HS.out, ⟨_, _, rfl⟩, HB1.out.drew⟩
      · have hge' : decide (sp ≥ 0) = false := by simpa using hge
        have HS : Hid (scopeB ds.length ⟨sp, xs⟩ = false) := Lib.hid (by rw [HSB.out]; simp [inB]; omega)
        clear hpr hk0
        go_wp2
        go_region
        go_wp2
        go_ret
        exact .inl ⟨HS.out, ⟨_, _, rfl⟩, HB1.out.drew⟩
  case rest =>
    obtain ⟨rfl, hsb, hheap, hbx⟩ := hcut
    have hT0 : Tree ((w.alloc (.cells #[.int .i64 sp, .slice oi xs.length ci] 67)).alloc (.cells #[.int .i64 ds.length, .pointer (newPar ds sp), .slice oi xs.length ci] 193)) B T M1 M2 (.slice oa ds.length cap) ds :=
      HH.out.below (((Below.refl _ w).alloc (Nat.le_refl _) _).alloc (by simp) _) (Nat.le_refl _)
    have hT := hT0.same (w' := wc) (fun g _ _ => by rw [hheap])
    clear hT0
    have hbw := hbx
    have hnew : Row wc (w.heap.size + 1) 193 [.int .i64 ds.length, .pointer (newPar ds sp), .slice oi xs.length ci] := by
      unfold Row; rw [hheap]
      have := Row.new (w.alloc (.cells #[.int .i64 sp, .slice oi xs.length ci] 67)) [.int .i64 ds.length, .pointer (newPar ds sp), .slice oi xs.length ci] 193
      rw [World.size_alloc] at this
      exact this
    have HHP := Lib.hid hheap
    have HZ : Hid (wc.heap.size = w.heap.size + 2) := Lib.hid (by rw [hheap]; simp)
    clear hc0 hc0' hbx
    generalize Value.slice oa ds.length cap = v at hT HH
    have HT := Lib.hid hT
    have HN := Lib.hid hnew
    have HSB := Lib.hid hsb
    obtain ⟨i0, hi, hz0, hz1, hz2⟩ := info_parts infoPtr
    have hown := hT.ptrs
    have c0 := hT.box.cell (i := 0) (by rfl)
    have hlow := hT.low
    clear hheap hT hnew hsb g1' g2'
    go_wp2_with (at_builtin; refine wpList_append_own _ rfl _ _ 178 rfl B 191 i0 (.pointer none) 1 8 Tryz.underlying178 hi hz0 hz1 hz2 rfl (by decide) _ _ _ rfl (hown.alloc _) ⟨wc.heap.size, 0, none⟩ 1 1 [.pointer (some ⟨w.heap.size + 1, 0, none⟩)] rfl rfl ?c1 ?c2 ?c3 ?c4 ?c5 ?_)
    case c1 => exact cells_new _ _ _
    case c2 => intro u hu; simp only [List.mem_singleton] at hu; subst hu; rfl
    case c3 => unfold maxLen; omega
    case c4 => omega
    case c5 => have := hbw.size; simp only [World.size_alloc]; omega
    · intro v' w3 hown' hgrow _
      have HG := Lib.hid hgrow
      have HO := Lib.hid hown'
      have HTA := Lib.hid (HT.out.below ((Below.refl wc.heap.size wc).alloc (Nat.le_refl _) (.cells #[.pointer (some ⟨w.heap.size + 1, 0, none⟩)] 191)) (Nat.le_refl _))
      have HNA := Lib.hid (HN.out.alloc (.cells #[.pointer (some ⟨w.heap.size + 1, 0, none⟩)] 191))
      obtain ⟨g', cap', rfl⟩ : ∃ g cap, v' = .slice (some ⟨g, 0, none⟩) (ds.length + 1) cap := by
        obtain ⟨_, h2 | ⟨g, cap, cur, hv, _⟩⟩ := hown'
        · exact absurd h2.2 (by omega)
        · exact ⟨g, cap, hv⟩
      have hbox := HTA.out.box.grown hgrow (HTA.out.notRow HTA.out.box (by decide))
      have c3 := hbox.cell (i := 0) (by rfl)
      have f3 := hbox.frozen 0
      have HOT : Hid (∀ g t vs, Row w g t vs → t ≠ 180 → t ≠ 191 → Row w3 g t vs ∧ g ≠ T) := Lib.hid (fun g t vs hr h1 h2 => by
        have r1 := ((hr.alloc (.cells #[.int .i64 sp, .slice oi xs.length ci] 67)).alloc (.cells #[.int .i64 ds.length, .pointer (newPar ds sp), .slice oi xs.length ci] 193)).same (w' := wc) (by rw [HHP.out])
        have r2 := r1.alloc (.cells #[.pointer (some ⟨w.heap.size + 1, 0, none⟩)] 191)
        exact ⟨r2.grown hgrow (HTA.out.notRow r2 h2), r2.neq HTA.out.box h1⟩)
      have HBW : Hid (Below B w w3) := Lib.hid ((hbw.alloc (by have := hbw.size; omega) _).grown hgrow (by have := hbw.size; simp; omega) (fun r hr => (hown.lt r hr).1))
      clear hgrow hown' hown hbox c0 hbw
      go_wp2
      go_ret
      refine .inr ⟨HSB.out, rfl, HBW.out.setCell (p := ⟨T, 0, none⟩) hlow _, (fun g t vs hr h1 h2 => (HOT.out g t vs hr h1 h2).1.other (fun e => (HOT.out g t vs hr h1 h2).2 e.symm) _), .slice (some ⟨g', 0, none⟩) (ds.length + 1) cap', w.heap.size + 1, ?_⟩
      refine HH.out.snoc HTA.out (nd := ⟨w.heap.size + 1, newPar ds sp, .slice oi xs.length ci⟩) HNA.out (by simp; omega) (by simp) ?_ HG.out HO.out
      unfold newPar
      split
      · exact .inl rfl
      · cases hd : ds[sp.toNat]? with
        | none => exact .inl rfl
        | some e => exact .inr ⟨_, e, hd, rfl⟩
end Go.Proofs.YtgehpaojbnpbcaaGreatDoor
