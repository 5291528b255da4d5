/-
  The statement of FnExactParsePlace, as the tied card says it: for every text the law returns true and changes nothing that was there, given that the listed package-level variables hold what the program's text lays in them.
-/
import Derived.Test.YthjmgpjbpnaneaaDoorCards
import Derived.Test.YthjmgpjbpnaneaaDoorTie
import Derived.Test.YthjmgpjbpnaneaaDoorLawPlace
import Derived.Test.YthjmgpjbpnaneaaDoorClosedPlace
import Derived.Test.YthjmgpjbpnaneaaDoorLaid
namespace Go.Proofs.YthjmgpjbpnaneaaDoor
open Go Go.RowKit Go.ChangeShapes Go.WideShapes Go.ChangeAt
open Go.ChangeMaps (open_string shut_string)
namespace rowPlace
theorem gNum : Tryd.prog.globalNamed "loop.example/scopegraphs/impl.errNumber" = some 5 := by kernel_rfl
theorem tNum : (Tryd.prog.globals[5]?).map (·.type) = some 84 := by kernel_rfl
theorem tSyn : (Tryd.prog.globals[8]?).map (·.type) = some 84 := by kernel_rfl
/-- What the row's list gives. -/
theorem of_laid {W : World} (h : laidMetH Tryd.prog Rows.fnExactParsePlaceRow.laid W) (hs : 12 ≤ W.heap.size) :
    ∃ a : Addr, W.var? Tryd.prog "loop.example/scopegraphs/impl.errNumber" = some #[.iface 228 (.pointer (some a))] ∧ NumGlobs W := by
  rw [MakeChecks.laidMetH_plain _ _ _ (by kernel_rfl)] at h
  have h2 := h.tail.tail
  have h4 := h2.tail.tail
  obtain ⟨a, hn⟩ := sent h4.tail gNum tNum
  obtain ⟨b, hy⟩ := sent h4 gSyn tSyn
  exact ⟨a, hn, ⟨hs, tab_of h2⟩, IsErr.of_var gNum hn, _, _, hy⟩
set_option maxRecDepth 100000 in
theorem contract (H : Type) (enc : TypeId × Value → H) (W : World) (base : Nat) (args : Array Value) (ds gs : List (DataW H)) (before : List MemPlace)
    (hval0 : ∀ (j : Nat) t v, Tryd.f13.params[j]? = some t → args[j]? = some v → Value.okWide Tryd.prog W .any base t v)
    (hW : DataW.Whole enc Tryd.prog Tryd.f13.params.toList Rows.fnExactParsePlaceSpec.vars false W args.toList ds gs before) (hL : laidMetH Tryd.prog Rows.fnExactParsePlaceRow.laid W) (hsh : W.ShapedOpen Tryd.prog) :
    Calls Tryd.prog 13 args W fun e W' => ∃ v, e = .returned v ∧ Rows.fnExactParsePlaceSpec.post enc Tryd.prog Tryd.f13 false true false false W args v W' := by
  have hval := hval0
  have hW' := hW
  obtain ⟨p, q, hA0, hV, rfl, hfz, hnd⟩ := hW
  have hA : DataW.TrodAll enc Tryd.prog W 0 (fun _ => true) true Tryd.f13.params.toList args.toList ds p := hA0
  rw [Tryd.params13] at hA hval
  obtain ⟨v0, vs0, d0, ds0, p0, q0, hargs, rfl, rfl, h0, r0⟩ := trodAll_cons hA
  obtain ⟨rfl, rfl, rfl⟩ := trodAll_nil r0
  obtain rfl : args = #[v0] := by cases args; simp_all
  obtain ⟨s, rfl, rfl, rfl, ws⟩ := open_string Tryd.underlying9 (hval 0 9 v0 rfl rfl) h0
  obtain ⟨a, hn, hg⟩ := of_laid hL (size_of_shaped hsh)
  have hvars : ∀ (W' : World) (sp : Nat → Bool), W'.var? Tryd.prog "loop.example/scopegraphs/impl.errNumber" = some #[.iface 228 (.pointer (some a))] →
      DataW.TrodVars enc Tryd.prog W' sp Rows.fnExactParsePlaceSpec.vars [tok enc (.iface 228 (.pointer (some a)))] [.cell 5 0] := fun W' sp h => vars_cons enc gNum tNum h trivial (vars_nil enc)
  obtain ⟨rfl, rfl⟩ := hV.unique (hvars W _ hn)
  clear hA0 hval0
  refine (lawPlace s W ws hg (Tryd.laysM145.s1_3 W hsh)).mono fun e W' ⟨he, hb⟩ => ?_
  subst he
  refine ⟨_, rfl, _, _, _, [], [], [.cell 5 0], hW', ?_, ?_, ?_, hb.frame _, fun h => by cases h⟩
  · exact trodAll_cons_mk (shut_bool Tryd.underlying4 _) trodAll_mk0
  · exact trodAll_cons_mk (shut_string Tryd.underlying9 ws) trodAll_mk0
  · exact hvars W' _ (var?_below hb gNum (by have := hg.tabs.size; omega) hn)
theorem laid_met (os : Os) : laidMetH Tryd.prog Rows.fnExactParsePlaceRow.laid ((World.doorLaid Tryd.prog 176 os).forCall (fun _ _ => 0) ⟨#[], #[.string ⟨#[]⟩], []⟩).memory :=
  laidMetH_of_parts3 (fuel := 8) (laidMet_of_run' 8 (by kernel_rfl) (by kernel_rfl)) (by kernel_rfl) (by kernel_rfl)
set_option maxRecDepth 100000 in
theorem lifted (os : Os) (started : os.Started) (H : Type) (enc : TypeId × Value → H) (F : Stop.Interp) :
    ReturnsInHanded {} Tryd.checked os 13 .any ((OpenSpec.ofChange Rows.fnExactParsePlaceSpec).preRow enc Tryd.prog Tryd.f13 Rows.fnExactParsePlaceRow.domain false Rows.fnExactParsePlaceRow.laid) (((OpenSpec.ofChange Rows.fnExactParsePlaceSpec).at F).post enc Tryd.prog Tryd.f13 false true false false) := by
  have hw : ((DataW.whole enc Tryd.prog ((World.doorLaid Tryd.prog 176 os).forCall (fun _ _ => 0) ⟨#[], #[.string ⟨#[]⟩], []⟩).memory Tryd.f13.params.toList Rows.fnExactParsePlaceSpec.vars false #[Value.string ⟨#[]⟩].toList 8)).isSome = true := by kernel_rfl
  obtain ⟨x, hx⟩ := Option.isSome_iff_exists.1 hw
  refine returnsInHanded_of_row (C := Tryd.checked) (s := OpenSpec.ofChange Rows.fnExactParsePlaceSpec) own started (by kernel_rfl) Tryd.func13
    (witness_row_atRef (enc := enc) (C := Tryd.checked) false (World.doorLaid Tryd.prog 176 os) #[.string ⟨#[]⟩] rfl (by kernel_rfl) (by kernel_rfl) (by kernel_rfl)
      (OpenSpec.preRow_of_cond 8 hx (by kernel_rfl) (fun k hk => by cases hk) (by kernel_rfl) (laid_met os))) ?_
  intro W base args ds gs before hval hW _ _ _ hL hsh _
  exact contract H enc W base args ds gs before hval hW hL hsh
theorem said : Rows.FnExactParsePlaceSaid :=
  OpenClaim.holds_of_cond 13 Tryd.f13 rfl rfl rfl rfl rfl rfl rfl ⟨rfl, rfl, rfl, rfl, rfl⟩ rfl rfl rfl rfl rfl (by kernel_rfl) Tryd.func13 closed
    (of_decide_eq_true (by kernel_rfl)) (by unfold Func.isWrapper; first | (rw [if_pos (by decide +kernel)]; kernel_rfl) | (rw [if_neg (by decide +kernel)]; exact ⟨rfl, rfl⟩))
    (fun os started H enc _ F => by rw [OpenClaim.pre_eq_preRow]; exact lifted os started H enc F)
/-- No parameter wants a stand-in; the program's looks are the card's. -/
theorem plain (f : FuncId) (fn : Func) (hf : Tryd.pinned.checked.prog.funcNamed "loop.example/scopegraphs/laws.FnExactParsePlace" = some f) (hfn : Tryd.pinned.checked.prog.funcs[f]? = some fn) :
    true = Tryd.pinned.checked.prog.looks [] ∧ ∀ (j : Nat) t, fn.params[j]? = some t → Tryd.pinned.checked.prog.wantsStandIn t = false := by
  obtain rfl : f = 13 := Option.some.inj ((show Tryd.prog.funcNamed "loop.example/scopegraphs/laws.FnExactParsePlace" = some 13 by kernel_rfl).symm.trans hf) |>.symm
  obtain rfl : fn = Tryd.f13 := (Option.some.inj (Tryd.func13.symm.trans hfn)).symm
  refine ⟨by kernel_rfl, fun j t ht => ?_⟩
  rw [Tryd.params13] at ht
  obtain rfl : t = 9 := by simpa using Array.mem_of_getElem? ht
  exact (show Tryd.prog.wantsStandIn 9 = false by kernel_rfl)
end rowPlace
open rowPlace in
theorem fnExactParsePlace_card : Rows.FnExactParsePlaceCardSaid :=
  Claim7.holds_tied_plain_at .later [] _ _ _ _ said (fun _ h => by cases h) (by kernel_rfl) (fun _ h => by cases h) fnExactParsePlace_row_tie rfl ⟨rfl, rfl⟩ (by kernel_rfl) rfl plain (by kernel_rfl)
#print axioms fnExactParsePlace_card
end Go.Proofs.YthjmgpjbpnaneaaDoor
