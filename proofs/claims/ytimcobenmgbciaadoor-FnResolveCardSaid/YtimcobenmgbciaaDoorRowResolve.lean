/-
  The statement of FnResolve, as the tied card says it: for every input the law returns true and changes nothing that was there, given that the listed package-level variables hold what the program's text lays in them.
-/
import Derived.Test.YtimcobenmgbciaaDoorCards
import Derived.Test.YtimcobenmgbciaaDoorTie
import Derived.Test.YtimcobenmgbciaaDoorClosedResolve
import Derived.Test.YtimcobenmgbciaaDoorLaidB
import Derived.Test.YtimcobenmgbciaaDoorLawResolve
import Derived.OpenVars
import Derived.Lib.LaidTab
namespace Go.Proofs.YtimcobenmgbciaaDoor
open Go Go.RowKit Go.ChangeShapes Go.WideShapes Go.ChangeAt
open Go.ChangeMaps (open_string shut_string)
namespace rowResolve
theorem gV0 : Tryd.prog.globalNamed "loop.example/scopegraphs/impl.errScopes" = some 1 := by kernel_rfl
theorem tV0 : (Tryd.prog.globals[1]?).map (·.type) = some 71 := by kernel_rfl
theorem gV1 : Tryd.prog.globalNamed "loop.example/scopegraphs/impl.errItems" = some 3 := by kernel_rfl
theorem tV1 : (Tryd.prog.globals[3]?).map (·.type) = some 71 := by kernel_rfl
theorem gV2 : Tryd.prog.globalNamed "loop.example/scopegraphs/impl.errParent" = some 4 := by kernel_rfl
theorem tV2 : (Tryd.prog.globals[4]?).map (·.type) = some 71 := by kernel_rfl
theorem gV3 : Tryd.prog.globalNamed "loop.example/scopegraphs/impl.errItem" = some 5 := by kernel_rfl
theorem tV3 : (Tryd.prog.globals[5]?).map (·.type) = some 71 := by kernel_rfl
theorem gV4 : Tryd.prog.globalNamed "loop.example/scopegraphs/impl.errModule" = some 6 := by kernel_rfl
theorem tV4 : (Tryd.prog.globals[6]?).map (·.type) = some 71 := by kernel_rfl
theorem gV5 : Tryd.prog.globalNamed "loop.example/scopegraphs/impl.errName" = some 2 := by kernel_rfl
theorem tV5 : (Tryd.prog.globals[2]?).map (·.type) = some 71 := by kernel_rfl
theorem gV6 : Tryd.prog.globalNamed "loop.example/scopegraphs/impl.errNoScope" = some 7 := by kernel_rfl
theorem tV6 : (Tryd.prog.globals[7]?).map (·.type) = some 71 := by kernel_rfl
theorem gW : Tryd.prog.globalNamed "loop.example/scopegraphs/impl.stateWords" = some 0 := by kernel_rfl
theorem tW : (Tryd.prog.globals[0]?).map (·.type) = some 89 := by kernel_rfl
theorem cW : Tryd.prog.cellsOf 89 = 5 := by kernel_rfl
/-- An array of strings that reads as these words holds them, cell for cell. -/
theorem words_of {H : Type} {enc : TypeId × Value → H} {w : World} {base : Nat} {sp : Nat → Bool} {held : Bool} {fuel : Nat} {cs : List Value} {zs : List (List UInt8)} {p : List MemPlace}
    (h : DataW.trod enc Tryd.prog w base sp held fuel 89 cs = some (.agg (zs.map fun z => (DataW.lit (Lit.string z) : DataW H)), p)) : ∀ (i : Nat) (z : List UInt8), zs[i]? = some z → cs[i]? = some (Value.string ⟨z.toArray⟩) := by
  cases fuel with
  | zero => simp [DataW.trod] at h
  | succ fuel =>
    simp only [DataW.trod, Tryd.underlying89, cells9, cW, Nat.mul_one] at h
    split at h
    · rename_i hl
      obtain ⟨xs, hm, hx⟩ := Option.map_eq_some_iff.1 h
      have hxs : xs.map (·.1) = zs.map fun z => (DataW.lit (.string z) : DataW H) := by
        have := congrArg Prod.fst hx
        simpa using this
      have hxl : xs.length = 5 := by simpa using Lib.mapM_length hm
      intro i z hz
      have hi : i < 5 := by
        have h1 := (List.getElem?_eq_some_iff.1 hz).1
        have h2 := congrArg List.length hxs
        simp only [List.length_map] at h2
        omega
      obtain ⟨b, hb, hf⟩ := Lib.mapM_at hm i i (by simp [hi])
      obtain ⟨s, hc, rfl, _⟩ := DataW.trod_string Tryd.underlying9 hf
      have h1 : cs[i]? = some (.string s) := by
        have := congrArg (·[0]?) hc
        simpa [List.getElem?_take, List.getElem?_drop] using this
      have h2 : (xs.map (·.1))[i]? = some (DataW.lit (.string s.data.toList) : DataW H) := by simp [hb]
      rw [hxs] at h2
      rw [List.getElem?_map, hz] at h2
      simp only [Option.map_some, Option.some.injEq, DataW.lit.injEq, Lit.string.injEq] at h2
      rw [h1, h2]
    · cases h
def words : List (List UInt8) := [[110, 111, 110, 101], [102, 111, 117, 110, 100], [109, 105, 115, 115, 105, 110, 103], [97, 109, 98, 105, 103, 117, 111, 117, 115], [112, 108, 97, 105, 110]]
theorem words_eq : (Rows.laid_loop_example_scopegraphs_impl_stateWords : DataW Unit) = .agg (words.map fun z => (DataW.lit (Lit.string z) : DataW Unit)) := by kernel_rfl
theorem trodVars_split {H : Type} {enc : TypeId × Value → H} {P : Program} {w : World} {spare : Nat → Bool} {n : String} {ns : List String} {gs : List (DataW H)} {ps : List MemPlace} (h : DataW.TrodVars enc P w spare (n :: ns) gs ps) : ∃ d ds q, gs = d :: ds ∧ DataW.TrodVars enc P w spare ns ds q := by
  cases gs with
  | nil => simp [DataW.TrodVars] at h
  | cons d ds =>
    obtain ⟨g, t, cs, fuel, p, q, h1, h2, h3, h4, hs, e⟩ := h
    exact ⟨d, ds, q, rfl, hs⟩
/-- What the row's list gives. -/
theorem of_laid {W : World} (h : laidMetH Tryd.prog Rows.fnResolveRow.laid W) : ∃ a0 a1 a2 a3 a4 a5 a6 : Addr, W.var? Tryd.prog "loop.example/scopegraphs/impl.errScopes" = some #[.iface 230 (.pointer (some a0))] ∧ W.var? Tryd.prog "loop.example/scopegraphs/impl.errItems" = some #[.iface 230 (.pointer (some a1))] ∧ W.var? Tryd.prog "loop.example/scopegraphs/impl.errParent" = some #[.iface 230 (.pointer (some a2))] ∧ W.var? Tryd.prog "loop.example/scopegraphs/impl.errItem" = some #[.iface 230 (.pointer (some a3))] ∧ W.var? Tryd.prog "loop.example/scopegraphs/impl.errModule" = some #[.iface 230 (.pointer (some a4))] ∧ W.var? Tryd.prog "loop.example/scopegraphs/impl.errName" = some #[.iface 230 (.pointer (some a5))] ∧ W.var? Tryd.prog "loop.example/scopegraphs/impl.errNoScope" = some #[.iface 230 (.pointer (some a6))] ∧ WordsAt W := by
  rw [MakeChecks.laidMetH_plain _ _ _ (by kernel_rfl)] at h
  obtain ⟨a0, e0⟩ := sent (h) gV0 tV0
  obtain ⟨a1, e1⟩ := sent (h.tail.tail) gV1 tV1
  obtain ⟨a2, e2⟩ := sent (h.tail) gV2 tV2
  obtain ⟨a3, e3⟩ := sent (h.tail.tail.tail) gV3 tV3
  obtain ⟨a4, e4⟩ := sent (h.tail.tail.tail.tail) gV4 tV4
  obtain ⟨a5, e5⟩ := sent (h.tail.tail.tail.tail.tail.tail) gV5 tV5
  obtain ⟨a6, e6⟩ := sent (h.tail.tail.tail.tail.tail) gV6 tV6
  have h' : laidMet Tryd.prog [("loop.example/scopegraphs/impl.stateWords", Rows.laid_loop_example_scopegraphs_impl_stateWords)] W := h.tail.tail.tail.tail.tail.tail.tail
  rw [words_eq] at h'
  obtain ⟨ps, ⟨g', t', cs, fuel, p, q, hg', ht', hvar, hd, _, _⟩, _⟩ := h'
  obtain rfl := Option.some.inj (gW.symm.trans hg')
  obtain rfl := Option.some.inj (tW.symm.trans ht')
  have hw := words_of hd
  have hcell : ∀ (i : Nat) (z : List UInt8), words[i]? = some z → W.cell? ⟨0, i, none⟩ = some (.string ⟨z.toArray⟩) := fun i z hz => by
    have h1 := World.var?_cell gW hvar i
    rw [← Array.getElem?_toList, hw i z hz] at h1
    simpa using h1
  exact ⟨a0, a1, a2, a3, a4, a5, a6, e0, e1, e2, e3, e4, e5, e6, ⟨hcell 0 _ rfl, hcell 1 _ rfl, hcell 2 _ rfl, hcell 3 _ rfl, hcell 4 _ rfl⟩⟩
set_option maxRecDepth 100000 in
theorem contract (H : Type) (enc : TypeId × Value → H) (W : World) (base : Nat) (args : Array Value) (ds gs : List (DataW H)) (before : List MemPlace)
    (hval0 : ∀ (j : Nat) t v, Tryd.f3.params[j]? = some t → args[j]? = some v → Value.okWide Tryd.prog W .any base t v)
    (hW : DataW.Whole enc Tryd.prog Tryd.f3.params.toList Rows.fnResolveSpec.vars false W args.toList ds gs before)
    (hsz : (DataW.weightsEach Tryd.prog (Tryd.f3.params.toList ++ (OpenSpec.ofChange Rows.fnResolveSpec).bare.plain.varTypes Tryd.prog) (ds ++ gs)).all (· ≤ reachBytes) = true)
    (hL : laidMetH Tryd.prog Rows.fnResolveRow.laid W) (hsh : W.ShapedOpen Tryd.prog) :
    Calls Tryd.prog 3 args W fun e W' => ∃ v, e = .returned v ∧ Rows.fnResolveSpec.post enc Tryd.prog Tryd.f3 false true false false W args v W' := by
  have hval := hval0
  have hW' := hW
  obtain ⟨p, q, hA0, hV, hbef, hfz, hnd⟩ := hW
  have hA : DataW.TrodAll enc Tryd.prog W 0 (fun _ => true) true Tryd.f3.params.toList args.toList ds p := hA0
  rw [Tryd.params3] at hA hval
  obtain ⟨v0, vs0, d0, ds0, p0, q0, hargs, rfl, rfl, h0, r0⟩ := trodAll_cons hA
  obtain ⟨v1, vs1, d1, ds1, p1, q1, rfl, rfl, rfl, h1, r1⟩ := trodAll_cons r0
  obtain ⟨rfl, rfl, rfl⟩ := trodAll_nil r1
  obtain rfl : args = #[v0, v1] := by cases args; simp_all
  have hs := size_of_shaped hsh
  have hlaid := of_laid hL
  obtain ⟨a0, a1, a2, a3, a4, a5, a6, u0, u1, u2, u3, u4, u5, u6, hlaid⟩ := hlaid
  have hV2 : DataW.TrodVars enc Tryd.prog W _ ["loop.example/scopegraphs/impl.errScopes", "loop.example/scopegraphs/impl.errItems", "loop.example/scopegraphs/impl.errParent", "loop.example/scopegraphs/impl.errItem", "loop.example/scopegraphs/impl.errModule", "loop.example/scopegraphs/impl.stateWords", "loop.example/scopegraphs/impl.errName", "loop.example/scopegraphs/impl.errNoScope"] gs q := hV
  obtain ⟨g0, t0, _, rfl, k0⟩ := trodVars_split hV2
  obtain ⟨g1, t1, _, rfl, k1⟩ := trodVars_split k0
  obtain ⟨g2, t2, _, rfl, k2⟩ := trodVars_split k1
  obtain ⟨g3, t3, _, rfl, k3⟩ := trodVars_split k2
  obtain ⟨g4, t4, _, rfl, k4⟩ := trodVars_split k3
  obtain ⟨g5, t5, _, rfl, k5⟩ := trodVars_split k4
  obtain ⟨g6, t6, _, rfl, k6⟩ := trodVars_split k5
  obtain ⟨g7, t7, _, rfl, k7⟩ := trodVars_split k6
  obtain ⟨rfl, -⟩ := trodVars_none k7
  have hlt : ∀ x ∈ before, x.block < W.heap.size := fun x hx => by simpa using hW'.lt x hx
  clear hA0 hval0
  have again0 : ∀ W' : World, Below W.heap.size W W' → DataW.Trod enc Tryd.prog W' 0 (fun b => decide (b < W.heap.size)) true 22 v0 d0 p0 := fun W' hb => Below.trod laidOut (by kernel_rfl) (of_decide_eq_true (by kernel_rfl)) h0 hb (fun x hx => hlt x (by rw [hbef]; simp [hx]))
  have again1 : ∀ W' : World, Below W.heap.size W W' → DataW.Trod enc Tryd.prog W' 0 (fun b => decide (b < W.heap.size)) true 22 v1 d1 p1 := fun W' hb => Below.trod laidOut (by kernel_rfl) (of_decide_eq_true (by kernel_rfl)) h1 hb (fun x hx => hlt x (by rw [hbef]; simp [hx]))
  have walk : Calls Tryd.prog 3 #[v0, v1] W fun e w' => e = .returned (.bool true) ∧ Below W.heap.size W w' := by
    obtain ⟨oa, len, cap, rfl, hb, hlc⟩ := open_code (hval 0 _ v0 rfl rfl) h0
    obtain ⟨ob, len2, cap2, rfl, hb2, hlc2⟩ := open_code (hval 1 _ v1 rfl rfl) h1
    exact lawResolve hb hlc hb2 hlc2 ⟨⟨⟨hs, IsErr.of_var gV0 u0, IsErr.of_var gV2 u2, IsErr.of_var gV1 u1, IsErr.of_var gV3 u3, IsErr.of_var gV4 u4⟩, IsErr.of_var gV6 u6⟩, IsErr.of_var gV5 u5⟩ hlaid hs
  refine walk.mono fun e W' ⟨he, hb⟩ => ?_
  subst he
  exact ⟨_, rfl, _, _, _, [], p0 ++ (p1 ++ ([])), q, hW', trodAll_cons_mk (shut_bool Tryd.underlying4 _) trodAll_mk0, (trodAll_cons_mk (again0 _ hb) (trodAll_cons_mk (again1 _ hb) trodAll_mk0)), Go.RowKit.Below.trodVars laidOut hb (by kernel_rfl) hV, hb.frame _, fun h => by cases h⟩
theorem laid_met (os : Os) : laidMetH Tryd.prog Rows.fnResolveRow.laid ((World.doorLaid Tryd.prog 147 os).forCall (fun _ _ => 0) ⟨#[], #[.slice none 0 0, .slice none 0 0], []⟩).memory :=
  laidMetH_of_parts3 (fuel := 8) (laidMet_of_run' 8 (by kernel_rfl) (by kernel_rfl)) (by kernel_rfl) (by kernel_rfl)
set_option maxRecDepth 100000 in
set_option maxHeartbeats 4000000 in
theorem lifted (os : Os) (started : os.Started) (H : Type) (enc : TypeId × Value → H) (F : Stop.Interp) :
    ReturnsInHanded {} Tryd.checked os 3 .any ((OpenSpec.ofChange Rows.fnResolveSpec).preRow enc Tryd.prog Tryd.f3 Rows.fnResolveRow.domain false Rows.fnResolveRow.laid) (((OpenSpec.ofChange Rows.fnResolveSpec).at F).post enc Tryd.prog Tryd.f3 false true false false) := by
  have hw : ((DataW.whole enc Tryd.prog ((World.doorLaid Tryd.prog 147 os).forCall (fun _ _ => 0) ⟨#[], #[.slice none 0 0, .slice none 0 0], []⟩).memory Tryd.f3.params.toList Rows.fnResolveSpec.vars false #[.slice none 0 0, .slice none 0 0].toList 8)).isSome = true := by as_aux_lemma => kernel_rfl
  obtain ⟨x, hx⟩ := Option.isSome_iff_exists.1 hw
  refine returnsInHanded_of_row (C := Tryd.checked) (s := OpenSpec.ofChange Rows.fnResolveSpec) own started (by as_aux_lemma => kernel_rfl) Tryd.func3
    (witness_row_atRef (enc := enc) (C := Tryd.checked) false (World.doorLaid Tryd.prog 147 os) #[.slice none 0 0, .slice none 0 0] rfl (by as_aux_lemma => kernel_rfl) (by as_aux_lemma => kernel_rfl) (by as_aux_lemma => kernel_rfl)
      (OpenSpec.preRow_of_cond 8 hx (by kernel_rfl) (fun k hk => by cases hk) (by as_aux_lemma => kernel_rfl) (laid_met os))) ?_
  intro W base args ds gs before hval hW _ _ hsz hL hsh _
  exact contract H enc W base args ds gs before hval hW hsz hL hsh
theorem said : Rows.FnResolveSaid :=
  OpenClaim.holds_of_cond 3 Tryd.f3 rfl rfl rfl rfl rfl rfl rfl ⟨rfl, rfl, rfl, rfl, rfl⟩ rfl rfl rfl rfl rfl (by as_aux_lemma => kernel_rfl) Tryd.func3 closed
    (of_decide_eq_true (by as_aux_lemma => kernel_rfl)) (by unfold Func.isWrapper; first | (rw [if_pos (by decide +kernel)]; kernel_rfl) | (rw [if_neg (by decide +kernel)]; exact ⟨rfl, rfl⟩))
    (fun os started H enc _ F => by rw [OpenClaim.pre_eq_preRow]; exact lifted os started H enc F)
/-- No parameter wants a stand-in; the program's looks are the card's. -/
theorem plain (f : FuncId) (fn : Func) (hf : Tryd.pinned.checked.prog.funcNamed "loop.example/scopegraphs/laws.FnResolve" = some f) (hfn : Tryd.pinned.checked.prog.funcs[f]? = some fn) :
    false = Tryd.pinned.checked.prog.looks [] ∧ ∀ (j : Nat) t, fn.params[j]? = some t → Tryd.pinned.checked.prog.wantsStandIn t = false := by
  obtain rfl : f = 3 := Option.some.inj ((show Tryd.prog.funcNamed "loop.example/scopegraphs/laws.FnResolve" = some 3 by kernel_rfl).symm.trans hf) |>.symm
  obtain rfl : fn = Tryd.f3 := (Option.some.inj (Tryd.func3.symm.trans hfn)).symm
  refine ⟨by as_aux_lemma => kernel_rfl, fun j t ht => ?_⟩
  rw [Tryd.params3] at ht
  have hm : t ∈ [22, 22] := by simpa using Array.mem_of_getElem? ht
  have hall : ([22, 22].all fun u => !Tryd.prog.wantsStandIn u) = true := by kernel_rfl
  exact (show Tryd.prog.wantsStandIn t = false by simpa using List.all_eq_true.1 hall t hm)
end rowResolve
open rowResolve in
theorem fnResolve_card : Rows.FnResolveCardSaid :=
  Claim7.holds_tied_plain_at .later [] _ _ _ _ said (fun _ h => by cases h) (by as_aux_lemma => kernel_rfl) (fun _ h => by cases h) fnResolve_row_tie rfl ⟨rfl, rfl⟩ (by as_aux_lemma => kernel_rfl) rfl plain (by as_aux_lemma => kernel_rfl)
#print axioms fnResolve_card
end Go.Proofs.YtimcobenmgbciaaDoor
