/-
  The statement of FnExactIsFewest, as the tied card says it: for every input the law returns true and changes nothing that was there, given that the listed package-level variables hold what the program's text lays in them.
-/
import Derived.Test.YtgehpaojbnpbcaaGreatDoorCards
import Derived.Test.YtgehpaojbnpbcaaGreatDoorTie
import Derived.Test.YtgehpaojbnpbcaaGreatDoorClosedExactIsFewest
import Derived.Test.YtgehpaojbnpbcaaGreatDoorLaidBZ
import Derived.Test.YtgehpaojbnpbcaaGreatDoorLawExactIsFewestZ
import Derived.Test.YtgehpaojbnpbcaaGreatDoorOpenGraphZ
namespace Go.Proofs.YtgehpaojbnpbcaaGreatDoor
open Go Go.RowKit Go.ChangeShapes Go.WideShapes Go.ChangeAt
open Go.ChangeMaps (open_string shut_string)
namespace rowExactIsFewest
theorem gV0 : Tryz.prog.globalNamed "loop.example/scopegraphs/impl.errMany" = some 0 := by kernel_rfl
theorem tV0 : (Tryz.prog.globals[0]?).map (·.type) = some 71 := by kernel_rfl
theorem gV1 : Tryz.prog.globalNamed "loop.example/scopegraphs/impl.errSeveral" = some 1 := by kernel_rfl
theorem tV1 : (Tryz.prog.globals[1]?).map (·.type) = some 71 := by kernel_rfl
theorem gV2 : Tryz.prog.globalNamed "loop.example/scopegraphs/impl.errScopes" = some 3 := by kernel_rfl
theorem tV2 : (Tryz.prog.globals[3]?).map (·.type) = some 71 := by kernel_rfl
theorem gV3 : Tryz.prog.globalNamed "loop.example/scopegraphs/impl.errItems" = some 4 := by kernel_rfl
theorem tV3 : (Tryz.prog.globals[4]?).map (·.type) = some 71 := by kernel_rfl
theorem gV4 : Tryz.prog.globalNamed "loop.example/scopegraphs/impl.errParent" = some 5 := by kernel_rfl
theorem tV4 : (Tryz.prog.globals[5]?).map (·.type) = some 71 := by kernel_rfl
theorem gV5 : Tryz.prog.globalNamed "loop.example/scopegraphs/impl.errItem" = some 6 := by kernel_rfl
theorem tV5 : (Tryz.prog.globals[6]?).map (·.type) = some 71 := by kernel_rfl
theorem gV6 : Tryz.prog.globalNamed "loop.example/scopegraphs/impl.errModule" = some 7 := by kernel_rfl
theorem tV6 : (Tryz.prog.globals[7]?).map (·.type) = some 71 := by kernel_rfl
theorem gV7 : Tryz.prog.globalNamed "loop.example/scopegraphs/impl.errNaming" = some 2 := by kernel_rfl
theorem tV7 : (Tryz.prog.globals[2]?).map (·.type) = some 71 := by kernel_rfl
/-- What the row's list gives. -/
theorem of_laid {W : World} (h : laidMetH Tryz.prog Rows.fnExactIsFewestRow.laid W) : ∃ a0 a1 a2 a3 a4 a5 a6 a7 : Addr, W.var? Tryz.prog "loop.example/scopegraphs/impl.errMany" = some #[.iface 220 (.pointer (some a0))] ∧ W.var? Tryz.prog "loop.example/scopegraphs/impl.errSeveral" = some #[.iface 220 (.pointer (some a1))] ∧ W.var? Tryz.prog "loop.example/scopegraphs/impl.errScopes" = some #[.iface 220 (.pointer (some a2))] ∧ W.var? Tryz.prog "loop.example/scopegraphs/impl.errItems" = some #[.iface 220 (.pointer (some a3))] ∧ W.var? Tryz.prog "loop.example/scopegraphs/impl.errParent" = some #[.iface 220 (.pointer (some a4))] ∧ W.var? Tryz.prog "loop.example/scopegraphs/impl.errItem" = some #[.iface 220 (.pointer (some a5))] ∧ W.var? Tryz.prog "loop.example/scopegraphs/impl.errModule" = some #[.iface 220 (.pointer (some a6))] ∧ W.var? Tryz.prog "loop.example/scopegraphs/impl.errNaming" = some #[.iface 220 (.pointer (some a7))] := by
  rw [MakeChecks.laidMetH_plain _ _ _ (by kernel_rfl)] at h
  obtain ⟨a0, e0⟩ := sent (h) gV0 tV0
  obtain ⟨a1, e1⟩ := sent (h.tail.tail.tail.tail.tail.tail) gV1 tV1
  obtain ⟨a2, e2⟩ := sent (h.tail) gV2 tV2
  obtain ⟨a3, e3⟩ := sent (h.tail.tail.tail) gV3 tV3
  obtain ⟨a4, e4⟩ := sent (h.tail.tail) gV4 tV4
  obtain ⟨a5, e5⟩ := sent (h.tail.tail.tail.tail) gV5 tV5
  obtain ⟨a6, e6⟩ := sent (h.tail.tail.tail.tail.tail) gV6 tV6
  obtain ⟨a7, e7⟩ := sent (h.tail.tail.tail.tail.tail.tail.tail) gV7 tV7
  exact ⟨a0, a1, a2, a3, a4, a5, a6, a7, e0, e1, e2, e3, e4, e5, e6, e7⟩
set_option maxRecDepth 100000 in
theorem contract (H : Type) (enc : TypeId × Value → H) (W : World) (base : Nat) (args : Array Value) (ds gs : List (DataW H)) (before : List MemPlace)
    (hval0 : ∀ (j : Nat) t v, Tryz.f4.params[j]? = some t → args[j]? = some v → Value.okWide Tryz.prog W .any base t v)
    (hW : DataW.Whole enc Tryz.prog Tryz.f4.params.toList Rows.fnExactIsFewestSpec.vars false W args.toList ds gs before)
    (hsz : (DataW.weightsEach Tryz.prog (Tryz.f4.params.toList ++ (OpenSpec.ofChange Rows.fnExactIsFewestSpec).bare.plain.varTypes Tryz.prog) (ds ++ gs)).all (· ≤ reachBytes) = true)
    (hL : laidMetH Tryz.prog Rows.fnExactIsFewestRow.laid W) (hsh : W.ShapedOpen Tryz.prog) :
    Calls Tryz.prog 4 args W fun e W' => ∃ v, e = .returned v ∧ Rows.fnExactIsFewestSpec.post enc Tryz.prog Tryz.f4 false true false false W args v W' := by
  have hval := hval0
  have hW' := hW
  obtain ⟨p, q, hA0, hV, hbef, hfz, hnd⟩ := hW
  have hA : DataW.TrodAll enc Tryz.prog W 0 (fun _ => true) true Tryz.f4.params.toList args.toList ds p := hA0
  rw [Tryz.params4] at hA hval
  obtain ⟨v0, vs0, d0, ds0, p0, q0, hargs, rfl, rfl, h0, r0⟩ := trodAll_cons hA
  obtain ⟨rfl, rfl, rfl⟩ := trodAll_nil r0
  obtain rfl : args = #[v0] := by cases args; simp_all
  have hs := size_of_shaped hsh
  have hlaid := of_laid hL
  obtain ⟨a0, a1, a2, a3, a4, a5, a6, a7, u0, u1, u2, u3, u4, u5, u6, u7⟩ := hlaid
  have hvars : ∀ (W' : World) (sp : Nat → Bool), W'.var? Tryz.prog "loop.example/scopegraphs/impl.errMany" = some #[.iface 220 (.pointer (some a0))] → W'.var? Tryz.prog "loop.example/scopegraphs/impl.errSeveral" = some #[.iface 220 (.pointer (some a1))] → W'.var? Tryz.prog "loop.example/scopegraphs/impl.errScopes" = some #[.iface 220 (.pointer (some a2))] → W'.var? Tryz.prog "loop.example/scopegraphs/impl.errItems" = some #[.iface 220 (.pointer (some a3))] → W'.var? Tryz.prog "loop.example/scopegraphs/impl.errParent" = some #[.iface 220 (.pointer (some a4))] → W'.var? Tryz.prog "loop.example/scopegraphs/impl.errItem" = some #[.iface 220 (.pointer (some a5))] → W'.var? Tryz.prog "loop.example/scopegraphs/impl.errModule" = some #[.iface 220 (.pointer (some a6))] → W'.var? Tryz.prog "loop.example/scopegraphs/impl.errNaming" = some #[.iface 220 (.pointer (some a7))] →
      DataW.TrodVars enc Tryz.prog W' sp Rows.fnExactIsFewestSpec.vars [tok enc (.iface 220 (.pointer (some a0))), tok enc (.iface 220 (.pointer (some a1))), tok enc (.iface 220 (.pointer (some a2))), tok enc (.iface 220 (.pointer (some a3))), tok enc (.iface 220 (.pointer (some a4))), tok enc (.iface 220 (.pointer (some a5))), tok enc (.iface 220 (.pointer (some a6))), tok enc (.iface 220 (.pointer (some a7)))] [.cell 0 0, .cell 1 0, .cell 3 0, .cell 4 0, .cell 5 0, .cell 6 0, .cell 7 0, .cell 2 0] := fun W' sp k0 k1 k2 k3 k4 k5 k6 k7 => vars_cons enc gV0 tV0 k0 trivial (vars_cons enc gV1 tV1 k1 trivial (vars_cons enc gV2 tV2 k2 trivial (vars_cons enc gV3 tV3 k3 trivial (vars_cons enc gV4 tV4 k4 trivial (vars_cons enc gV5 tV5 k5 trivial (vars_cons enc gV6 tV6 k6 trivial (vars_cons enc gV7 tV7 k7 trivial (vars_nil enc))))))))
  obtain ⟨rfl, rfl⟩ := hV.unique (hvars W _ u0 u1 u2 u3 u4 u5 u6 u7)
  have hlt : ∀ x ∈ before, x.block < W.heap.size := fun x hx => by simpa using hW'.lt x hx
  clear hA0 hval0
  have again0 : ∀ W' : World, Below W.heap.size W W' → DataW.Trod enc Tryz.prog W' 0 (fun b => decide (b < W.heap.size)) true 24 v0 d0 p0 := fun W' hb => Below.trod laidOut (by kernel_rfl) (of_decide_eq_true (by kernel_rfl)) h0 hb (fun x hx => hlt x (by rw [hbef]; simp [hx]))
  have walk : Calls Tryz.prog 4 #[v0] W fun e w' => e = .returned (.bool true) ∧ Below W.heap.size W w' := by
    obtain ⟨oa, cap, ss, rfl, hc, hf, hI⟩ := open_graph (hval 0 _ v0 rfl rfl) h0
    exact lawExactIsFewest ss oa cap W hf hI hc ⟨⟨⟨hs, IsErr.of_var gV2 u2, IsErr.of_var gV4 u4, IsErr.of_var gV3 u3, IsErr.of_var gV5 u5, IsErr.of_var gV6 u6⟩, IsErr.of_var gV1 u1, IsErr.of_var gV7 u7⟩, IsErr.of_var gV0 u0⟩
  refine walk.mono fun e W' ⟨he, hb⟩ => ?_
  subst he
  exact ⟨_, rfl, _, _, _, [], p0 ++ ([]), [.cell 0 0, .cell 1 0, .cell 3 0, .cell 4 0, .cell 5 0, .cell 6 0, .cell 7 0, .cell 2 0], hW', trodAll_cons_mk (shut_bool Tryz.underlying4 _) trodAll_mk0, (trodAll_cons_mk (again0 _ hb) trodAll_mk0), hvars W' _ (var?_below hb gV0 (by omega) u0) (var?_below hb gV1 (by omega) u1) (var?_below hb gV2 (by omega) u2) (var?_below hb gV3 (by omega) u3) (var?_below hb gV4 (by omega) u4) (var?_below hb gV5 (by omega) u5) (var?_below hb gV6 (by omega) u6) (var?_below hb gV7 (by omega) u7), hb.frame _, fun h => by cases h⟩
theorem laid_met (os : Os) : laidMetH Tryz.prog Rows.fnExactIsFewestRow.laid ((World.doorLaid Tryz.prog 161 os).forCall (fun _ _ => 0) ⟨#[], #[.agg #[.slice none 0 0]], []⟩).memory :=
  laidMetH_of_parts3 (fuel := 8) (laidMet_of_run' 8 (by kernel_rfl) (by kernel_rfl)) (by kernel_rfl) (by kernel_rfl)
set_option maxRecDepth 100000 in
set_option maxHeartbeats 4000000 in
theorem lifted (os : Os) (started : os.Started) (H : Type) (enc : TypeId × Value → H) (F : Stop.Interp) :
    ReturnsInHanded {} Tryz.checked os 4 .any ((OpenSpec.ofChange Rows.fnExactIsFewestSpec).preRow enc Tryz.prog Tryz.f4 Rows.fnExactIsFewestRow.domain false Rows.fnExactIsFewestRow.laid) (((OpenSpec.ofChange Rows.fnExactIsFewestSpec).at F).post enc Tryz.prog Tryz.f4 false true false false) := by
  have hw : ((DataW.whole enc Tryz.prog ((World.doorLaid Tryz.prog 161 os).forCall (fun _ _ => 0) ⟨#[], #[.agg #[.slice none 0 0]], []⟩).memory Tryz.f4.params.toList Rows.fnExactIsFewestSpec.vars false #[.agg #[.slice none 0 0]].toList 8)).isSome = true := by as_aux_lemma => kernel_rfl
  obtain ⟨x, hx⟩ := Option.isSome_iff_exists.1 hw
  refine returnsInHanded_of_row (C := Tryz.checked) (s := OpenSpec.ofChange Rows.fnExactIsFewestSpec) own started (by as_aux_lemma => kernel_rfl) Tryz.func4
    (witness_row_atRef (enc := enc) (C := Tryz.checked) false (World.doorLaid Tryz.prog 161 os) #[.agg #[.slice none 0 0]] rfl (by as_aux_lemma => kernel_rfl) (by as_aux_lemma => kernel_rfl) (by as_aux_lemma => kernel_rfl)
      (OpenSpec.preRow_of_cond 8 hx (by kernel_rfl) (fun k hk => by cases hk) (by as_aux_lemma => kernel_rfl) (laid_met os))) ?_
  intro W base args ds gs before hval hW _ _ hsz hL hsh _
  exact contract H enc W base args ds gs before hval hW hsz hL hsh
theorem said : Rows.FnExactIsFewestSaid :=
  OpenClaim.holds_of_cond 4 Tryz.f4 rfl rfl rfl rfl rfl rfl rfl ⟨rfl, rfl, rfl, rfl, rfl⟩ rfl rfl rfl rfl rfl (by as_aux_lemma => kernel_rfl) Tryz.func4 closed
    (of_decide_eq_true (by as_aux_lemma => kernel_rfl)) (by unfold Func.isWrapper; first | (rw [if_pos (by decide +kernel)]; kernel_rfl) | (rw [if_neg (by decide +kernel)]; exact ⟨rfl, rfl⟩))
    (fun os started H enc _ F => by rw [OpenClaim.pre_eq_preRow]; exact lifted os started H enc F)
/-- No parameter wants a stand-in; the program's looks are the card's. -/
theorem plain (f : FuncId) (fn : Func) (hf : Tryz.pinned.checked.prog.funcNamed "loop.example/scopegraphs/laws.FnExactIsFewest" = some f) (hfn : Tryz.pinned.checked.prog.funcs[f]? = some fn) :
    false = Tryz.pinned.checked.prog.looks [] ∧ ∀ (j : Nat) t, fn.params[j]? = some t → Tryz.pinned.checked.prog.wantsStandIn t = false := by
  obtain rfl : f = 4 := Option.some.inj ((show Tryz.prog.funcNamed "loop.example/scopegraphs/laws.FnExactIsFewest" = some 4 by kernel_rfl).symm.trans hf) |>.symm
  obtain rfl : fn = Tryz.f4 := (Option.some.inj (Tryz.func4.symm.trans hfn)).symm
  refine ⟨by as_aux_lemma => kernel_rfl, fun j t ht => ?_⟩
  rw [Tryz.params4] at ht
  have hm : t ∈ [24] := by simpa using Array.mem_of_getElem? ht
  have hall : ([24].all fun u => !Tryz.prog.wantsStandIn u) = true := by kernel_rfl
  exact (show Tryz.prog.wantsStandIn t = false by simpa using List.all_eq_true.1 hall t hm)
end rowExactIsFewest
open rowExactIsFewest in
theorem fnExactIsFewest_card : Rows.FnExactIsFewestCardSaid :=
  Claim7.holds_tied_plain_at .later [] _ _ _ _ said (fun _ h => by cases h) (by as_aux_lemma => kernel_rfl) (fun _ h => by cases h) fnExactIsFewest_row_tie rfl ⟨rfl, rfl⟩ (by as_aux_lemma => kernel_rfl) rfl plain (by as_aux_lemma => kernel_rfl)
#print axioms fnExactIsFewest_card
end Go.Proofs.YtgehpaojbnpbcaaGreatDoor
