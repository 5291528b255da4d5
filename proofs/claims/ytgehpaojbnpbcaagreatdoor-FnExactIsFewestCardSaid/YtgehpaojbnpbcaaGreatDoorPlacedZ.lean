/-
  The walk of impl's addItem. All items of a graph with their places in order, what a fold into a map reads as, and worlds whose cells below a bound lie as they lay. Plain facts.
-/
import Derived.Test.YtgehpaojbnpbcaaGreatDoorWTreeZ
import Derived.Test.YtgehpaojbnpbcaaGreatDoorBaseZ
import Derived.RangeFuncNested
import Derived.RangeFuncBox
namespace Go.Proofs.YtgehpaojbnpbcaaGreatDoor
open Go Go.RowKit Go.Maps
/-- How places and items read, as elements of maps. -/
def placeR (v : Value) : Option (DataW Unit × List MemPlace) :=
  match v with
  | .agg cs => (match cs.toList with | [.int .i64 a, .int .i64 b] => some (.agg [.lit (.int .i64 a), .lit (.int .i64 b)], []) | _ => none)
  | _ => none
def itemR (v : Value) : Option (DataW Unit × List MemPlace) :=
  match v with
  | .agg cs => (match cs.toList with | [.int .i64 a, .string s, .int .i64 b] => some (.agg [.lit (.int .i64 a), .lit (.string s.data.toList), .lit (.int .i64 b)], []) | _ => none)
  | _ => none
def placeD (a b : Int) : DataW Unit := .agg [.lit (.int .i64 a), .lit (.int .i64 b)]
def itemD (x : It) : DataW Unit := .agg [.lit (.int .i64 x.kind), .lit (.string x.name.data.toList), .lit (.int .i64 x.scope)]
theorem placeR_mk (a b : Int) : placeR (.agg #[.int .i64 a, .int .i64 b]) = some (placeD a b, []) := rfl
theorem itemR_mk (x : It) : itemR (.agg #[.int .i64 x.kind, .string x.name, .int .i64 x.scope]) = some (itemD x, []) := rfl
theorem placeR_inv {v : Value} {d : DataW Unit} {ps : List MemPlace} (h : placeR v = some (d, ps)) : ∃ a b : Int, v = .agg #[.int .i64 a, .int .i64 b] := by
  unfold placeR at h
  split at h
  · split at h
    · rename_i cs _ a b he
      refine ⟨a, b, ?_⟩
      have : cs = #[.int .i64 a, .int .i64 b] := by rw [← he]
      rw [this]
    · cases h
  · cases h
theorem placeR_same {a b c e : Int} {d : DataW Unit} {ps qs : List MemPlace} (h : placeR (.agg #[.int .i64 a, .int .i64 b]) = some (d, ps)) (k : placeR (.agg #[.int .i64 c, .int .i64 e]) = some (d, qs)) : a = c ∧ b = e := by
  rw [placeR_mk] at h k
  have h1 := congrArg Prod.fst (Option.some.inj h)
  have k1 := congrArg Prod.fst (Option.some.inj k)
  simp only at h1 k1
  have := h1.trans k1.symm
  simpa [placeD] using this
theorem zeroPlace (w : World) : (zeroValue 59).run Tryz.prog w = .ok (.agg #[.int .i64 0, .int .i64 0]) w := by kernel_rfl
/-- Whether an item may be added. -/
def okItem (ds : List Nd) (d : Nd) (D : DataW Unit) (x : It) : Bool := itemB x && (x.scope == -1 || (parB ds x.scope (some ⟨d.blk, 0, none⟩) && !Maps.has D (.int .i64 x.scope)))
/-- Two blocks may have turned, and nothing else that there was. -/
structure Turns (w w' : World) (M1 M2 : Nat) : Prop where
  os : w'.os = w.os
  tape : w'.tape = w.tape
  output : w'.output = w.output
  size : w.heap.size ≤ w'.heap.size
  rest : ∀ g, g < w.heap.size → g ≠ M1 → g ≠ M2 → w'.heap[g]? = w.heap[g]?
theorem Turns.of_below {w w' : World} {M1 M2 : Nat} (h : Below w.heap.size w w') : Turns w w' M1 M2 := ⟨h.os, h.tape, h.output, h.size, fun g hg _ _ => h.block g hg⟩
theorem Turns.of_grown {w w' : World} {M1 M2 M : Nat} (h : w.grownBy w' (some M)) (hM : M = M1 ∨ M = M2) : Turns w w' M1 M2 :=
  ⟨h.os, h.tape, h.output, h.size, fun g hg h1 h2 => h.block g hg (fun e => by cases e; rcases hM with rfl | rfl <;> contradiction)⟩
theorem Turns.trans {a b c : World} {M1 M2 : Nat} (h : Turns a b M1 M2) (k : Turns b c M1 M2) : Turns a c M1 M2 :=
  ⟨k.os.trans h.os, k.tape.trans h.tape, k.output.trans h.output, Nat.le_trans h.size k.size, fun g hg h1 h2 => (k.rest g (Nat.lt_of_lt_of_le hg h.size) h1 h2).trans (h.rest g hg h1 h2)⟩
/-- What adding an item leaves. -/
structure ItemAdded (w w' : World) (M1 M2 n1 n2 : Nat) (D1 D2 : DataW Unit) (p i : Int) (x : It) : Prop where
  turns : Turns w w' M1 M2
  items : w'.ownsMap Tryz.prog 59 itemR M1 (n1 + 1) (D1.put (plLit p i) (itemD x))
  mods : w'.ownsMap Tryz.prog 3 placeR M2 (n2 + 1) (if x.scope = -1 then D2 else D2.put (.int .i64 x.scope) (placeD p i))
theorem ownsMap_kept {w w' : World} {k : TypeId} {R : Value → Option (DataW Unit × List MemPlace)} {M M' n n' : Nat} {D : DataW Unit} (h : w.ownsMap Tryz.prog k R M n D) (hg : w.grownBy w' (some M')) (hne : M ≠ M') (hn : n ≤ n') : w'.ownsMap Tryz.prog k R M n' D := by
  obtain ⟨es, clock, hh, F, hs, r⟩ := h
  exact ⟨es, clock, (hg.block M (Array.getElem?_eq_some_iff.1 hh).1 (fun e => hne (by cases e; rfl))).trans hh, F, Nat.le_trans hs hn, r⟩
theorem ownsMap_below {w w' : World} {k : TypeId} {R : Value → Option (DataW Unit × List MemPlace)} {M n : Nat} {D : DataW Unit} (h : w.ownsMap Tryz.prog k R M n D) (hb : Below w.heap.size w w') : w'.ownsMap Tryz.prog k R M n D := by
  obtain ⟨es, clock, hh, r⟩ := h
  exact ⟨es, clock, (hb.block M (Array.getElem?_eq_some_iff.1 hh).1).trans hh, r⟩
theorem Row.ne_map {w : World} {g M n : Nat} {t k : TypeId} {vs : List Value} {R : Value → Option (DataW Unit × List MemPlace)} {D : DataW Unit} (h : Row w g t vs) (hm : w.ownsMap Tryz.prog k R M n D) : g ≠ M := by
  rintro rfl
  obtain ⟨es, clock, hh, _⟩ := hm
  unfold Row at h
  rw [h] at hh
  cases hh
theorem wf_small {a : Nat} (h : a < 1000) : (Lit.int .i64 (a : Int)).wf = true := WalkArith.wf_i64 (by omega)
set_option maxRecDepth 100000 in
set_option maxHeartbeats 4000000 in
theorem addItem_any {w : World} {B T M1 M2 n1 n2 : Nat} {v : Value} {ds : List Nd} {D1 D2 : DataW Unit} (h : Tree w B T M1 M2 v ds) (hm1 : w.ownsMap Tryz.prog 59 itemR M1 n1 D1) (hm2 : w.ownsMap Tryz.prog 3 placeR M2 n2 D2) (hne : M1 ≠ M2) (h1 : n1 < 1000) (h2 : n2 < 1000)
    (hg : IsErr w 6) (hg2 : IsErr w 7) (p i : Nat) (d : Nd) (hd : ds[p]? = some d) (hi : i < 1000) (hp : p < 1000) (x : It) (hx : (Lit.int .i64 x.scope).wf = true) :
    Calls Tryz.prog 111 #[.pointer (some ⟨T, 0, none⟩), .agg #[.int .i64 (p : Int), .int .i64 (i : Int)], .agg #[.int .i64 x.kind, .string x.name, .int .i64 x.scope]] w fun e w' =>
      (okItem ds d D2 x = false ∧ (∃ tp p, e = .returned (.iface tp p)) ∧ Below w.heap.size w w') ∨
      (okItem ds d D2 x = true ∧ e = .returned .nilIface ∧ ItemAdded w w' M1 M2 n1 n2 D1 D2 p i x) := by
  obtain ⟨kd, nm, sc⟩ := x
  obtain ⟨e1, p1, g1⟩ := hg
  obtain ⟨e2, p2, g2⟩ := hg2
  have HH := Lib.hid h
  have HM1 := Lib.hid hm1
  have HM2 := Lib.hid hm2
  have hb0 := ((Below.refl w.heap.size w).alloc (Nat.le_refl _) (.cells #[.int .i64 (p : Int), .int .i64 (i : Int)] 59)).alloc (by simp) (.cells #[.int .i64 kd, .string nm, .int .i64 sc] 137)
  have HB0 := Lib.hid hb0
  have g1' := (hb0.cell (p := ⟨6, 0, none⟩) (World.block_lt_of_cell? w _ g1)).trans g1
  have g2' := (hb0.cell (p := ⟨7, 0, none⟩) (World.block_lt_of_cell? w _ g2)).trans g2
  have C1 := Lib.hid (fun w => isName_any nm w)
  clear g1 g2 hb0 h hm1 hm2
  by_cases hk1 : kd < 1
  · have HO : Hid (okItem ds d D2 ⟨kd, nm, sc⟩ = false) := Lib.hid (by simp [okItem, itemB, inB]; omega)
    have k1 : decide (kd < 1) = true := by simpa using hk1
    go_enter Tryz.func111, Tryz.ntmps111
    go_wp2
    go_ret
    exact .inl ⟨HO.out, ⟨_, _, rfl⟩, HB0.out⟩
  have k1 : decide (kd < 1) = false := by simpa using hk1
  by_cases hk3 : 3 < kd
  · have HO : Hid (okItem ds d D2 ⟨kd, nm, sc⟩ = false) := Lib.hid (by simp [okItem, itemB, inB]; omega)
    have k3 : decide (kd > 3) = true := by simpa using hk3
    go_enter Tryz.func111, Tryz.ntmps111
    go_wp2
    go_ret
    exact .inl ⟨HO.out, ⟨_, _, rfl⟩, HB0.out⟩
  have k3 : decide (kd > 3) = false := by simpa using hk3
  have HI : Hid (itemB ⟨kd, nm, sc⟩ = (nameB nm && (sc == -1 || kd == 1))) := Lib.hid (by simp only [itemB, inB]; rw [decide_eq_true (show 1 ≤ kd by omega), decide_eq_true (show kd ≤ 3 by omega)]; simp)
  clear hk1 hk3
  generalize hq : nameB nm = q at C1 HI
  clear hq
  cases q
  · have HO : Hid (okItem ds d D2 ⟨kd, nm, sc⟩ = false) := Lib.hid (by simp [okItem, HI.out])
    go_enter Tryz.func111, Tryz.ntmps111
    go_wp2_with fail
    refine (C1.out _).mono ?_
    rintro e w1 ⟨rfl, rfl⟩
    go_wp2
    go_ret
    exact .inl ⟨HO.out, ⟨_, _, rfl⟩, HB0.out⟩
  have T1 := Lib.hid ((HH.out.below HB0.out (Nat.le_refl _)).box)
  have t1 := T1.out.cell (i := 1) (by rfl)
  have t2 := T1.out.cell (i := 2) (by rfl)
  have HA1 := Lib.hid (ownsMap_below HM1.out HB0.out)
  have HA2 := Lib.hid (ownsMap_below HM2.out HB0.out)
  by_cases hs : sc = -1
  · subst hs
    have HO : Hid (okItem ds d D2 ⟨kd, nm, -1⟩ = true) := Lib.hid (by simp [okItem, HI.out])
    go_enter Tryz.func111, Tryz.ntmps111
    go_wp2_with fail
    refine (C1.out _).mono ?_
    rintro e w1 ⟨rfl, rfl⟩
    obtain ⟨w2, hrun, hown2, hgrow2⟩ := (ownsMap_below HA1.out ((Below.refl _ _).drew)).update (t := 176) (e := 137) placeLaw Tryz.underlying176 (by unfold maxLen; omega) (pl_key (wf_small hp) (wf_small hi)) (itemR_mk ⟨kd, nm, -1⟩)
    have t1' := (((Below.refl _ _).drew).cell (p := ⟨T, 1, none⟩) T1.out.lt).trans t1
    have HD : Hid (ItemAdded w w2 M1 M2 n1 n2 D1 D2 p i ⟨kd, nm, -1⟩) := Lib.hid ⟨(Turns.of_below HB0.out.drew).trans (.of_grown hgrow2 (.inl rfl)), hown2, by
      simp only [if_pos]
      exact ownsMap_kept (ownsMap_below HM2.out HB0.out.drew) hgrow2 (Ne.symm hne) (Nat.le_succ _)⟩
    clear hown2 hgrow2
    go_wp2
    go_region
    go_wp2
    go_ret
    exact .inr ⟨HO.out, rfl, HD.out⟩
  have s0 : (sc == -1) = false := by simpa using hs
  by_cases hk : kd = 1
  · subst hk
    have HW := Lib.hid hx
    have HTW := Lib.hid (HH.out.below HB0.out (Nat.le_refl _))
    have HO : Hid (okItem ds d D2 ⟨1, nm, sc⟩ = (parB ds sc (some ⟨d.blk, 0, none⟩) && !Maps.has D2 (.int .i64 sc))) := Lib.hid (by simp [okItem, HI.out, s0])
    have C2 := Lib.hid (isParent_any HTW.out p d hd sc)
    go_enter Tryz.func111, Tryz.ntmps111
    go_wp2_with fail
    refine (C1.out _).mono ?_
    rintro e w1 ⟨rfl, rfl⟩
    go_wp2_with fail
    refine C2.out.mono ?_
    rintro e w3 ⟨rfl, hb3, -⟩
    have hz : w3.heap.size = w3.heap.size := rfl
    have RP : Row ((w.alloc (.cells #[.int .i64 (p : Int), .int .i64 (i : Int)] 59)).alloc (.cells #[.int .i64 1, .string nm, .int .i64 sc] 137)) w.heap.size 59 [.int .i64 (p : Int), .int .i64 (i : Int)] := (Row.new w [.int .i64 (p : Int), .int .i64 (i : Int)] 59).alloc _
    have RI := Row.new (w.alloc (.cells #[.int .i64 (p : Int), .int .i64 (i : Int)] 59)) [.int .i64 1, .string nm, .int .i64 sc] 137
    rw [World.size_alloc] at RI
    have RP3 := Lib.hid (RP.below hb3 RP.lt)
    have RI3 := Lib.hid (RI.below hb3 RI.lt)
    have HB3 := Lib.hid (HB0.out.trans (hb3.mono HB0.out.size))
    have g3 := (hb3.cell (p := ⟨7, 0, none⟩) (World.block_lt_of_cell? _ _ g2')).trans g2'
    have T3 := Lib.hid (T1.out.below hb3 T1.out.lt)
    have x2 := RI3.out.cell (i := 2) (by rfl)
    clear hb3 RP RI g1' g2' t1 t2 hz
    generalize hq : parB ds sc (some ⟨d.blk, 0, none⟩) = q at HO
    clear hq
    cases q
    · go_wp2
      go_ret
      exact .inl ⟨HO.out, ⟨_, _, rfl⟩, HB3.out⟩
    · have t2 := T3.out.cell (i := 2) (by rfl)
      have HM3 := Lib.hid (ownsMap_below HM2.out HB3.out)
      have hkey := keyOf_int_mk (P := Tryz.prog) (k := 3) (q := .i64) Tryz.underlying3 HW.out
      obtain ⟨v', ps, hrun, hv⟩ := (ownsMap_below HM3.out ((Below.refl _ _).drew)).look_ok (t := 177) (e := 59) scopeLaw Tryz.underlying177 (zeroPlace _) (placeR_mk 0 0) hkey
      obtain ⟨va, vb, rfl⟩ := placeR_inv hv
      have hbA := ((Below.refl w3.heap.size w3).alloc (Nat.le_refl _) (.cells #[.int .i64 0, .int .i64 0] 59)).drew
      obtain ⟨v2, ps2, hrun2, hv2⟩ := (ownsMap_below HM3.out hbA).look_ok (t := 177) (e := 59) scopeLaw Tryz.underlying177 (zeroPlace _) (placeR_mk 0 0) hkey
      obtain ⟨vc, vd, rfl⟩ := placeR_inv hv2
      obtain ⟨rfl, rfl⟩ := placeR_same hv hv2
      have x2' := (((Below.refl _ _).drew).cell (p := ⟨w.heap.size + 1, 2, none⟩) RI3.out.lt).trans x2
      have t2' := (((Below.refl _ _).drew).cell (p := ⟨T, 2, none⟩) T3.out.lt).trans t2
      have x2A := (hbA.cell (p := ⟨w.heap.size + 1, 2, none⟩) RI3.out.lt).trans x2
      have t2A := (hbA.cell (p := ⟨T, 2, none⟩) T3.out.lt).trans t2
      clear hbA hv2
      generalize hq : Maps.has D2 (.int .i64 sc) = q at HO hrun hrun2
      clear hq hv
      have HK := Lib.hid hkey
      clear hkey
      go_wp2
      go_cut [8] (fun s8 wx => s8 = .bool q ∧ Below w3.heap.size w3 wx)
      case first =>
        go_region
        all_goals go_wp2
        all_goals go_meet
        all_goals exact ⟨rfl, ((Below.refl w3.heap.size w3).alloc (Nat.le_refl _) _).drew⟩
      case rest =>
        obtain ⟨rfl, hbc⟩ := hcut
        have gc := (hbc.cell (p := ⟨7, 0, none⟩) (World.block_lt_of_cell? _ _ g3)).trans g3
        have RPc := Lib.hid (RP3.out.below hbc RP3.out.lt)
        have RIc := Lib.hid (RI3.out.below hbc RI3.out.lt)
        have Tc := Lib.hid (T3.out.below hbc T3.out.lt)
        have HBc := Lib.hid (HB3.out.trans (hbc.mono HB3.out.size))
        clear hrun hrun2 x2' t2' x2A t2A x2 t2 g3 hbc
        cases q
        case true =>
          go_wp2
          go_ret
          exact .inl ⟨HO.out, ⟨_, _, rfl⟩, HBc.out⟩
        case false =>
          obtain ⟨w4, hrun4, hown4, hgrow4⟩ := (ownsMap_below HM2.out HBc.out.drew).update (t := 177) (e := 59) scopeLaw Tryz.underlying177 (by unfold maxLen; omega) HK.out (placeR_mk p i)
          have p0 := (((Below.refl _ _).drew).cell (p := ⟨w.heap.size, 0, none⟩) RPc.out.lt).trans (RPc.out.cell (i := 0) (by rfl))
          have p1' := (((Below.refl _ _).drew).cell (p := ⟨w.heap.size, 1, none⟩) RPc.out.lt).trans (RPc.out.cell (i := 1) (by rfl))
          have x2' := (((Below.refl _ _).drew).cell (p := ⟨w.heap.size + 1, 2, none⟩) RIc.out.lt).trans (RIc.out.cell (i := 2) (by rfl))
          have t2' := (((Below.refl _ _).drew).cell (p := ⟨T, 2, none⟩) Tc.out.lt).trans (Tc.out.cell (i := 2) (by rfl))
          have M2n := ownsMap_below HM2.out HBc.out
          have R4P := Lib.hid (Row.grown (w := wc.drew) RPc.out hgrow4 (fun e => RPc.out.ne_map M2n (by cases e; rfl)))
          have R4I := Lib.hid (Row.grown (w := wc.drew) RIc.out hgrow4 (fun e => RIc.out.ne_map M2n (by cases e; rfl)))
          have T4 := Lib.hid (Row.grown (w := wc.drew) Tc.out hgrow4 (fun e => Tc.out.ne_map M2n (by cases e; rfl)))
          have HM4 := ownsMap_kept (ownsMap_below HM1.out HBc.out.drew) hgrow4 hne (Nat.le_refl _)
          obtain ⟨w5, hrun5, hown5, hgrow5⟩ := (ownsMap_below HM4 ((Below.refl _ _).drew)).update (t := 176) (e := 137) placeLaw Tryz.underlying176 (by unfold maxLen; omega) (pl_key (wf_small hp) (wf_small hi)) (itemR_mk ⟨1, nm, sc⟩)
          have q0 := (((Below.refl _ _).drew).cell (p := ⟨w.heap.size, 0, none⟩) R4P.out.lt).trans (R4P.out.cell (i := 0) (by rfl))
          have q1 := (((Below.refl _ _).drew).cell (p := ⟨w.heap.size, 1, none⟩) R4P.out.lt).trans (R4P.out.cell (i := 1) (by rfl))
          have i0 := (((Below.refl _ _).drew).cell (p := ⟨w.heap.size + 1, 0, none⟩) R4I.out.lt).trans (R4I.out.cell (i := 0) (by rfl))
          have i1 := (((Below.refl _ _).drew).cell (p := ⟨w.heap.size + 1, 1, none⟩) R4I.out.lt).trans (R4I.out.cell (i := 1) (by rfl))
          have i2 := (((Below.refl _ _).drew).cell (p := ⟨w.heap.size + 1, 2, none⟩) R4I.out.lt).trans (R4I.out.cell (i := 2) (by rfl))
          have t4 := (((Below.refl _ _).drew).cell (p := ⟨T, 1, none⟩) T4.out.lt).trans (T4.out.cell (i := 1) (by rfl))
          have HD : Hid (ItemAdded w w5 M1 M2 n1 n2 D1 D2 p i ⟨1, nm, sc⟩) := Lib.hid ⟨((Turns.of_below HBc.out.drew).trans (.of_grown hgrow4 (.inr rfl))).trans ((Turns.of_below ((Below.refl _ _).drew)).trans (.of_grown hgrow5 (.inl rfl))), hown5, by
            simp only [if_neg hs]
            exact ownsMap_kept (ownsMap_below hown4 ((Below.refl _ _).drew)) hgrow5 (Ne.symm hne) (Nat.le_refl _)⟩
          clear hown4 hgrow4 hown5 hgrow5 HM4 M2n
          go_wp2
          go_region
          go_wp2
          go_region
          go_wp2
          go_ret
          exact .inr ⟨HO.out, rfl, HD.out⟩
  · have HO : Hid (okItem ds d D2 ⟨kd, nm, sc⟩ = false) := Lib.hid (by simp [okItem, HI.out, s0, hk])
    have s1 : (kd == 1) = false := by simpa using hk
    go_enter Tryz.func111, Tryz.ntmps111
    go_wp2_with fail
    refine (C1.out _).mono ?_
    rintro e w1 ⟨rfl, rfl⟩
    go_wp2_with fail
    go_ret
    exact .inl ⟨HO.out, ⟨_, _, rfl⟩, HB0.out⟩
end Go.Proofs.YtgehpaojbnpbcaaGreatDoor
namespace Go.Proofs.YtgehpaojbnpbcaaGreatDoor
open Go Go.RowKit Go.Maps
/-- All items with their places, scope i being the first, in order. -/
def placed (i : Nat) : List Sc → List (Nat × Nat × It)
  | [] => []
  | s :: r => (s.items.zipIdx.map fun p => (i, p.2, p.1)) ++ placed (i + 1) r
theorem placed_append (i : Nat) : ∀ (a b : List Sc), placed i (a ++ b) = placed i a ++ placed (i + a.length) b
  | [], b => by simp [placed]
  | s :: r, b => by
    simp only [List.cons_append, placed, placed_append (i + 1) r b, List.append_assoc, List.length_cons]
    rw [show i + 1 + r.length = i + (r.length + 1) from by omega]
theorem placed_flat (i : Nat) : ∀ ss : List Sc, (placed i ss).map (fun q => (q.1, q.2.2)) = flat i ss
  | [] => rfl
  | s :: r => by
    simp only [placed, flat, List.map_append, placed_flat (i + 1) r, List.map_map]
    congr 1
    have e : ∀ (l : List It) (n : Nat), (l.zipIdx n).map (fun p => (i, p.1)) = l.map fun x => (i, x) := by
      intro l
      induction l with
      | nil => intro n; rfl
      | cons x r ih => intro n; simp [List.zipIdx_cons, ih]
    exact e s.items 0
theorem mem_placed {i : Nat} {ss : List Sc} {q : Nat × Nat × It} : q ∈ placed i ss ↔ ∃ s, i ≤ q.1 ∧ ss[q.1 - i]? = some s ∧ s.items[q.2.1]? = some q.2.2 := by
  induction ss generalizing i with
  | nil => simp [placed]
  | cons s r ih =>
    obtain ⟨a, b, x⟩ := q
    simp only [placed, List.mem_append, List.mem_map, ih]
    constructor
    · rintro (⟨⟨y, j⟩, hm, he⟩ | ⟨t, h1, h2, h3⟩)
      · simp only [Prod.mk.injEq] at he
        obtain ⟨rfl, rfl, rfl⟩ := he
        exact ⟨s, Nat.le_refl _, by simp, by simpa using List.mem_zipIdx_iff_getElem?.1 hm⟩
      · refine ⟨t, by omega, ?_, h3⟩
        rw [show a - i = (a - (i + 1)) + 1 from by omega, List.getElem?_cons_succ]; exact h2
    · rintro ⟨t, h1, h2, h3⟩
      by_cases he : a = i
      · subst he
        left
        simp at h2
        subst h2
        exact ⟨(x, b), List.mem_zipIdx_iff_getElem?.2 (by simpa using h3), rfl⟩
      · right
        refine ⟨t, by omega, ?_, h3⟩
        rw [show a - i = (a - (i + 1)) + 1 from by omega, List.getElem?_cons_succ] at h2; exact h2
/-- Those ahead of the j-th item of the k-th scope. -/
def uptoP (ss : List Sc) (k j : Nat) : List (Nat × Nat × It) := placed 0 (ss.take k) ++ ((((ss[k]?.map Sc.items).getD []).take j).zipIdx.map fun p => (k, p.2, p.1))
theorem uptoP_zero (ss : List Sc) (k : Nat) : uptoP ss k 0 = placed 0 (ss.take k) := by simp [uptoP]
theorem uptoP_start (ss : List Sc) : uptoP ss 0 0 = [] := by simp [uptoP, placed]
theorem uptoP_next {ss : List Sc} {k j : Nat} {s : Sc} {x : It} (hs : ss[k]? = some s) (hx : s.items[j]? = some x) : uptoP ss k (j + 1) = uptoP ss k j ++ [(k, j, x)] := by
  have hj := (List.getElem?_eq_some_iff.1 hx).1
  simp only [uptoP, hs, Option.map_some, Option.getD_some]
  rw [List.take_add_one, hx, List.zipIdx_append]
  simp [List.length_take, Nat.min_eq_left (Nat.le_of_lt hj)]
theorem uptoP_scope {ss : List Sc} {k : Nat} {s : Sc} (hs : ss[k]? = some s) : uptoP ss k s.items.length = uptoP ss (k + 1) 0 := by
  have hk := (List.getElem?_eq_some_iff.1 hs).1
  rw [uptoP_zero, List.take_add_one, hs, placed_append]
  simp only [uptoP, hs, Option.map_some, Option.getD_some, List.take_length, Option.toList_some, placed, List.append_nil, List.length_take]
  rw [show 0 + min k ss.length = k from by omega]
theorem uptoP_all (ss : List Sc) : uptoP ss ss.length 0 = placed 0 ss := by rw [uptoP_zero, List.take_length]
theorem uptoP_prefix {ss : List Sc} {k j : Nat} {s : Sc} (hs : ss[k]? = some s) : uptoP ss k j <+: placed 0 ss := by
  have hk := (List.getElem?_eq_some_iff.1 hs).1
  have e : ss = ss.take k ++ s :: ss.drop (k + 1) := by
    have h1 := List.drop_eq_getElem_cons hk
    rw [(List.getElem?_eq_some_iff.1 hs).2] at h1
    rw [← h1, List.take_append_drop]
  have e2 : s.items.zipIdx = (s.items.take j).zipIdx ++ (s.items.drop j).zipIdx (0 + (s.items.take j).length) := by
    rw [← List.zipIdx_append, List.take_append_drop]
  refine ⟨(((s.items.drop j).zipIdx (0 + (s.items.take j).length)).map fun p => (k, p.2, p.1)) ++ placed (k + 1) (ss.drop (k + 1)), ?_⟩
  conv => rhs; rw [e, placed_append]
  simp only [placed, uptoP, hs, Option.map_some, Option.getD_some, List.length_take]
  rw [show 0 + min k ss.length = k from by omega, e2, List.map_append]
  simp only [List.append_assoc, List.length_take]
/-- A list put into a map, each at its key. -/
def putInto {α : Type} (key : α → Lit) (val : α → DataW Unit) (D : DataW Unit) (l : List α) : DataW Unit := l.foldl (fun D q => D.put (key q) (val q)) D
theorem putInto_snoc {α : Type} (key : α → Lit) (val : α → DataW Unit) (D : DataW Unit) (l : List α) (x : α) : putInto key val D (l ++ [x]) = (putInto key val D l).put (key x) (val x) := by simp [putInto]
theorem putInto_isMap {α : Type} (key : α → Lit) (val : α → DataW Unit) : ∀ (l : List α) (D : DataW Unit), IsMap D → IsMap (putInto key val D l)
  | [], _, h => h
  | x :: r, D, h => putInto_isMap key val r (D.put (key x) (val x)) (h.put _ _)
theorem putInto_has {α : Type} (key : α → Lit) (val : α → DataW Unit) (hk : ∀ x, WideAt.IsKeyLit (key x)) (k : Lit) : ∀ (l : List α) (D : DataW Unit), IsMap D → (Maps.has (putInto key val D l) k = true ↔ Maps.has D k = true ∨ ∃ x ∈ l, key x = k)
  | [], D, h => by simp [putInto]
  | x :: r, D, h => by
    have ih := putInto_has key val hk k r (D.put (key x) (val x)) (h.put _ _)
    show Maps.has (putInto key val (D.put (key x) (val x)) r) k = true ↔ _
    rw [ih]
    by_cases he : key x = k
    · rw [← he, Maps.has_put_same h (hk x)]
      exact ⟨fun _ => .inr ⟨x, List.mem_cons_self, rfl⟩, fun _ => .inl rfl⟩
    · rw [Maps.has_put_other (fun e => he e.symm)]
      constructor
      · rintro (h1 | ⟨y, hy, e⟩)
        · exact .inl h1
        · exact .inr ⟨y, List.mem_cons_of_mem _ hy, e⟩
      · rintro (h1 | ⟨y, hy, e⟩)
        · exact .inl h1
        · rcases List.mem_cons.1 hy with rfl | hy
          · exact absurd e he
          · exact .inr ⟨y, hy, e⟩
theorem putInto_other {α : Type} (key : α → Lit) (val : α → DataW Unit) (k : Lit) (z : DataW Unit) : ∀ (l : List α) (D : DataW Unit), (∀ x ∈ l, key x ≠ k) → (putInto key val D l).atKey k z = D.atKey k z
  | [], D, h => rfl
  | x :: r, D, h => by
    show (putInto key val (D.put (key x) (val x)) r).atKey k z = _
    rw [putInto_other key val k z r _ (fun y hy => h y (List.mem_cons_of_mem _ hy))]
    exact Maps.atKey_put_other (fun e => h x List.mem_cons_self e.symm) _ _
/-- Where the keys are all different, each key reads as what was put there. -/
theorem putInto_at {α : Type} (key : α → Lit) (val : α → DataW Unit) (hk : ∀ x, WideAt.IsKeyLit (key x)) (z : DataW Unit) : ∀ (l : List α) (D : DataW Unit), IsMap D → (l.map key).Nodup → ∀ x ∈ l, (putInto key val D l).atKey (key x) z = val x
  | [], D, h, hn, x, hx => by simp at hx
  | y :: r, D, h, hn, x, hx => by
    rw [List.map_cons, List.nodup_cons] at hn
    show (putInto key val (D.put (key y) (val y)) r).atKey (key x) z = _
    rcases List.mem_cons.1 hx with rfl | hx
    · rw [putInto_other key val (key x) z r _ (fun u hu e => hn.1 (e ▸ List.mem_map_of_mem hu))]
      exact Maps.atKey_put_same h (hk x) _ _
    · exact putInto_at key val hk z r _ (h.put _ _) hn.2 x hx
/-- Blocks of cells below n lie as they lay. -/
structure CellsKept (n : Nat) (w w' : World) : Prop where
  size : w.heap.size ≤ w'.heap.size
  block : ∀ g vs t fr, g < n → w.heap[g]? = some (.cells vs t fr) → w'.heap[g]? = some (.cells vs t fr)
theorem CellsKept.refl (n : Nat) (w : World) : CellsKept n w w := ⟨Nat.le_refl _, fun _ _ _ _ _ h => h⟩
theorem CellsKept.trans {n : Nat} {a b c : World} (h : CellsKept n a b) (k : CellsKept n b c) : CellsKept n a c := ⟨Nat.le_trans h.size k.size, fun g vs t fr hg hh => k.block g vs t fr hg (h.block g vs t fr hg hh)⟩
theorem CellsKept.of_below {n : Nat} {a b : World} (h : Below n a b) : CellsKept n a b := ⟨h.size, fun g _ _ _ hg hh => (h.block g hg).trans hh⟩
theorem CellsKept.mono {n m : Nat} {a b : World} (h : CellsKept n a b) (hm : m ≤ n) : CellsKept m a b := ⟨h.size, fun g vs t fr hg hh => h.block g vs t fr (by omega) hh⟩
theorem CellsKept.putObj {n : Nat} (W : World) (l : Nat) (o o' : Obj) (h : W.heap[l]? = some o) (ho : o.isCells = false) : CellsKept n W (W.putObj l o') :=
  ⟨(grownBy_putObj' W l o').size, fun g _ _ _ _ hh => ((grownBy_putObj' W l o').block g (Array.getElem?_eq_some_iff.1 hh).1 (fun e => by cases e; rw [h] at hh; cases hh; cases ho)).trans hh⟩
theorem CellsKept.cell {n : Nat} {w w' : World} (h : CellsKept n w w') {b o : Nat} {v : Value} (hb : b < n) (hc : w.cell? ⟨b, o, none⟩ = some v) : w'.cell? ⟨b, o, none⟩ = some v := by
  obtain ⟨cs, t, fr, hh⟩ : ∃ cs t fr, w.heap[b]? = some (.cells cs t fr) := by
    unfold World.cell? at hc
    split at hc <;> first | (rename_i e; exact ⟨_, _, _, e⟩) | cases hc
  have := h.block b cs t fr hb hh
  unfold World.cell? at hc ⊢
  rw [hh] at hc
  rw [this]
  exact hc
theorem HoldsItems.kept {n : Nat} {w w' : World} {oa : Option Addr} {xs : List It} (h : HoldsItems w oa xs) (hk : CellsKept n w w') (hn : w.heap.size ≤ n) : HoldsItems w' oa xs := by
  rcases h with h | ⟨b, off, h1, h2, h3⟩
  · exact .inl h
  · refine .inr ⟨b, off, h1, Nat.lt_of_lt_of_le h2 hk.size, fun i x hx => ?_⟩
    obtain ⟨k0, k1, k2⟩ := h3 i x hx
    exact ⟨hk.cell (by omega) k0, hk.cell (by omega) k1, hk.cell (by omega) k2⟩
theorem Tree.kept {n : Nat} {w w' : World} {B T M1 M2 : Nat} {v : Value} {ds : List Nd} (h : Tree w B T M1 M2 v ds) (hk : CellsKept n w w') (hn : w.heap.size ≤ n) : Tree w' B T M1 M2 v ds :=
  h.same fun g _ ⟨vs, t, hh⟩ => (hk.block g vs t (0, 0) (Nat.lt_of_lt_of_le (Array.getElem?_eq_some_iff.1 hh).1 hn) hh).trans hh.symm
end Go.Proofs.YtgehpaojbnpbcaaGreatDoor
