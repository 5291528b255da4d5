/-
  The contract of the iterator from a node outwards (impl's (*node).outward): the scope itself and all around it, whatever the loop's body does, as long as it leaves the cells that were there. The walks of impl's (*tree).node and nodeOf. Conditions: the argument's memory holds the graph; the package-level errors hold errors.
-/
import Derived.Test.YtadpgoiiopfnnaaDoorWTreeOf
import Derived.Test.YtadpgoiiopfnnaaDoorChain
import Derived.Test.YtadpgoiiopfnnaaDoorWImplValid
namespace Go.Proofs.YtadpgoiiopfnnaaDoor
open Go Go.RowKit Go.Maps
attribute [local go_sem] Oper.semAt_some
/-- A node with its number. -/
abbrev NdOf (ds : List Nd) := { q : Nat × Nd // ds[q.1]? = some q.2 }
def NdOf.num {ds : List Nd} (x : NdOf ds) : Nat := x.1.1
def ndArgs (d : Nd) : Array Value := #[.pointer (some ⟨d.blk, 0, none⟩)]
/-- How far out a pointer may still lead. -/
def rank (ds : List Nd) : Value → Nat
  | .pointer (some a) => (ds.map Nd.blk).idxOf a.block + 1
  | _ => 0
theorem idx_of : ∀ {l : List Nat} {i x : Nat}, l.Nodup → l[i]? = some x → l.idxOf x = i
  | y :: r, 0, x, _, h => by simp at h; subst h; simp
  | y :: r, i + 1, x, hn, h => by
    rw [List.nodup_cons] at hn
    have h' : r[i]? = some x := by simpa using h
    have hne : y ≠ x := by rintro rfl; exact hn.1 (List.mem_of_getElem? h')
    have hb : (y == x) = false := by simpa using hne
    rw [List.idxOf_cons, hb, cond_false, idx_of hn.2 h']
theorem rank_of {ds : List Nd} (h : (ds.map Nd.blk).Nodup) {i : Nat} {d : Nd} (hd : ds[i]? = some d) : rank ds (.pointer (some ⟨d.blk, 0, none⟩)) = i + 1 := by
  show (ds.map Nd.blk).idxOf d.blk + 1 = i + 1
  rw [idx_of h (i := i) (by rw [List.getElem?_map, hd]; rfl)]
theorem par_ptr {ds : List Nd} {ss : List Sc} (hP : Pars ds ss) (hC : Climbs ss) (hl : ds.length = ss.length) {i : Nat} {d : Nd} (hd : ds[i]? = some d) :
    (parP ss i = none ∧ d.par = none) ∨ ∃ p e, parP ss i = some p ∧ p < i ∧ ds[p]? = some e ∧ d.par = some ⟨e.blk, 0, none⟩ := by
  have hi := (List.getElem?_eq_some_iff.1 hd).1
  obtain ⟨c, hc⟩ : ∃ c, ss[i]? = some c := ⟨_, List.getElem?_eq_getElem (by omega)⟩
  have hp := hP i d c hd hc
  unfold newPar at hp
  rcases hC.cases hc with ⟨_, h1, h2⟩ | ⟨p, h1, hlt, h2⟩
  · rw [if_pos h1] at hp; exact .inl ⟨h2, hp⟩
  · obtain ⟨e, he⟩ : ∃ e, ds[p]? = some e := ⟨_, List.getElem?_eq_getElem (by omega)⟩
    rw [if_neg (by omega), h1, Int.toNat_natCast, he] at hp
    exact .inr ⟨p, e, h2, hlt, he, hp⟩
theorem chain_bound {ss : List Sc} (h : Climbs ss) {s : Nat} (hs : s < ss.length) : (chainP ss s).length ≤ ss.length := by have := chain_length h s; omega
set_option maxRecDepth 100000 in
set_option maxHeartbeats 4000000 in
theorem outward1_in (n : Nat) (hn : 1 ≤ n) (l Bn B T M1 M2 : Nat) (v : Value) (ds : List Nd) (ss : List Sc) (w0 : World) (hT : Tree w0 B T M1 M2 v ds) (hP : Pars ds ss) (hC : Climbs ss) (hl : ds.length = ss.length) (s : Nat) (d : Nd) (hd : ds[s]? = some d)
    (J Jx : List (NdOf ds) → World → Prop) (W : World)
    (hY : ∀ pre x W1, J pre W1 → CellsKept w0.heap.size w0 W1 → pre.length < (chainP ss s).length → YieldAt Fence.wide (n - 1) Tryd.prog l (ndArgs x.1.2) W1 fun e W' =>
      (e = .returned (.bool true) ∧ J (pre ++ [x]) W' ∧ CellsKept w0.heap.size W1 W') ∨ (e = .returned (.bool false) ∧ Jx (pre ++ [x]) W'))
    (hk : CellsKept w0.heap.size w0 W) (hBn : W.cell? ⟨Bn, 0, none⟩ = some (.pointer (some ⟨d.blk, 0, none⟩))) (h0 : J [] W) :
    CallsIn Fence.wide n Tryd.prog 157 #[.func (.yield l) #[] #[], .pointer (some ⟨Bn, 0, none⟩)] W fun e W' => (∃ v, e = .returned v) ∧
      ((∃ ys : List (NdOf ds), ys.map NdOf.num = chainP ss s ∧ J ys W') ∨ (∃ pre : List (NdOf ds), pre.map NdOf.num <+: chainP ss s ∧ Jx pre W')) := by
  have HT := Lib.hid hT
  have HP := Lib.hid hP
  have HC := Lib.hid hC
  have HL := Lib.hid hl
  have HD := Lib.hid hd
  clear hT hP hC hl hd
  refine callsIn_of_wp Tryd.func157 rfl trivial ?_ rfl
  simp only [Tryd.ntmps157, List.size_toArray, List.length_cons, List.length_nil, Nat.reduceAdd, Nat.reduceSub, Array.replicate_succ, Array.replicate_zero, List.push_toArray, List.append_toArray, List.nil_append, List.cons_append]
  gi_wp2
  gi_loopw [3] (fun p wr => ∃ (pre : List (NdOf ds)), J pre wr ∧ CellsKept w0.heap.size w0 wr ∧
      ((p = .pointer none ∧ Hid (pre.map NdOf.num = chainP ss s)) ∨ ∃ (i : Nat) (c : Nd), p = .pointer (some ⟨c.blk, 0, none⟩) ∧ Hid (ds[i]? = some c) ∧ Hid (pre.map NdOf.num ++ chainP ss i = chainP ss s))) (fun p _ => rank ds p)
  case atStart => exact ⟨[], h0, hk, .inr ⟨s, d, rfl, HD, Lib.hid rfl⟩⟩
  case round =>
    obtain ⟨pre, hJ, hkr, ⟨rfl, hpre⟩ | ⟨i, c, rfl, hc, hpre⟩⟩ := hrel
    · gi_wp2
      go_end0
      exact ⟨⟨_, rfl⟩, .inl ⟨pre, hpre.out, hJ⟩⟩
    · have hlen : pre.length < (chainP ss s).length := by
        have := congrArg List.length hpre.out
        obtain ⟨t, ht⟩ := chain_head ss i
        rw [ht] at this
        simp at this
        omega
      obtain ⟨fn, tmps, assign, body, hy, hR⟩ := hY pre ⟨(i, c), hc.out⟩ wr hJ hkr hlen
      dsimp only [ndArgs] at hy
      have HR := Lib.hid (hR.mono (R' := fun e W' => ∃ q, e = .returned (.bool q) ∧ Hid ((q = true ∧ J (pre ++ [⟨(i, c), hc.out⟩]) W' ∧ CellsKept w0.heap.size wr W') ∨ (q = false ∧ Jx (pre ++ [⟨(i, c), hc.out⟩]) W'))) (by
        rintro e W' (⟨he, h1, h2⟩ | ⟨he, h1⟩)
        · exact ⟨true, he, Lib.hid (.inl ⟨rfl, h1, h2⟩)⟩
        · exact ⟨false, he, Lib.hid (.inr ⟨rfl, h1⟩)⟩))
      have HKR := Lib.hid hkr
      have HRK := Lib.hid (rank_of HT.out.inj hc.out)
      clear hR hlen hkr
      gi_wp2
      refine HR.out.mono ?_
      rintro e W3 ⟨q, rfl, hq⟩
      rcases hq.out with ⟨rfl, hJ3, hk3⟩ | ⟨rfl, hx3⟩
      · have HK3 := Lib.hid (HKR.out.trans hk3)
        have hpc := (((HT.out.kept HK3.out (Nat.le_refl _)).node i c hc.out).2.cell (i := 1) (v := .pointer c.par) (by rfl))
        rcases par_ptr HP.out HC.out HL.out hc.out with ⟨h1, h2⟩ | ⟨p, e', h1, hlt, h2, h3⟩
        · have HE : Hid ((pre ++ [(⟨(i, c), hc.out⟩ : NdOf ds)]).map NdOf.num = chainP ss s) := Lib.hid (by rw [← hpre.out, chain_none h1, List.map_append]; rfl)
          rw [h2] at hpc
          clear hk3 h1 h2
          gi_wp2
          exact ⟨⟨_, hJ3, HK3.out, .inl ⟨rfl, HE⟩⟩, by rw [HRK.out]; simp [rank]⟩
        · have HE : Hid ((pre ++ [(⟨(i, c), hc.out⟩ : NdOf ds)]).map NdOf.num ++ chainP ss p = chainP ss s) := Lib.hid (by rw [← hpre.out, chain_some HC.out h1, List.map_append, List.append_assoc]; rfl)
          have HP2 := Lib.hid h2
          have HR2 := Lib.hid (rank_of HT.out.inj h2)
          rw [h3] at hpc
          clear hk3 h1 h2 h3
          gi_wp2
          exact ⟨⟨_, hJ3, HK3.out, .inr ⟨p, e', rfl, HP2, HE⟩⟩, by rw [HRK.out, HR2.out]; omega⟩
      · have HE : Hid ((pre ++ [(⟨(i, c), hc.out⟩ : NdOf ds)]).map NdOf.num <+: chainP ss s) := Lib.hid (by
          obtain ⟨t, ht⟩ := chain_head ss i
          rw [← hpre.out, ht, List.map_append]
          exact ⟨t, by simp [NdOf.num]⟩)
        gi_wp2
        refine bodyPost_ret (results_none rfl _ _ _) rfl ?_
        exact ⟨⟨_, rfl⟩, .inr ⟨_, HE.out, hx3⟩⟩
theorem outward_any (p : Option Addr) (w : World) :
    Calls Tryd.prog 133 #[.pointer p] w fun e w' => e = .returned (.func (.func 157) #[] #[.pointer (some ⟨w.heap.size, 0, none⟩)]) ∧ w' = w.alloc (.cells #[.pointer p] 119) := by
  go_enter Tryd.func133, Tryd.ntmps133
  go_wp2
  go_ret
  exact ⟨rfl, rfl⟩
theorem outward_stops (n : Nat) (hn : 1 ≤ n) (Bn B T M1 M2 : Nat) (v : Value) (ds : List Nd) (ss : List Sc) (w0 w : World) (hT : Tree w0 B T M1 M2 v ds) (hP : Pars ds ss) (hC : Climbs ss) (hl : ds.length = ss.length) (s : Nat) (d : Nd) (hd : ds[s]? = some d)
    (hk : CellsKept w0.heap.size w0 w) (hBn : w.cell? ⟨Bn, 0, none⟩ = some (.pointer (some ⟨d.blk, 0, none⟩))) :
    SeqStopsK Fence.wide n Tryd.prog 157 #[.pointer (some ⟨Bn, 0, none⟩)] (fun x : NdOf ds => ndArgs x.1.2) (CellsKept w0.heap.size) (fun ys => ys.map NdOf.num = chainP ss s) (fun pre => pre.map NdOf.num <+: chainP ss s) (chainP ss s).length w :=
  fun l J Jx W hW _ _ hY h0 =>
    outward1_in n hn l Bn B T M1 M2 v ds ss w0 hT hP hC hl s d hd J Jx W (fun pre x W1 h _ hlen => hY pre x W1 h hlen) (hk.trans ((CellsKept.of_below hW).mono hk.size)) ((hW.cell (p := ⟨Bn, 0, none⟩) (World.block_lt_of_cell? _ _ hBn)).trans hBn) h0
end Go.Proofs.YtadpgoiiopfnnaaDoor
namespace Go.Proofs.YtadpgoiiopfnnaaDoor
open Go Go.RowKit Go.Maps
/-- The package-level errors of scopes hold errors. -/
structure NodeErrs (w : World) : Prop where
  trees : TreeErrs w
  scope : IsErr w 11
theorem NodeErrs.at {w w' : World} (h : NodeErrs w) (hb : Below w.heap.size w w') : NodeErrs w' where
  trees := h.trees.below hb h.trees.size
  scope := h.scope.below hb (Nat.lt_of_lt_of_le (by decide) h.trees.size)
theorem TreeIs.below {w w' : World} {B T M1 M2 : Nat} {v : Value} {ds : List Nd} {ss : List Sc} (h : TreeIs w B T M1 M2 v ds ss) (hb : Below w.heap.size w w') : TreeIs w' B T M1 M2 v ds ss where
  tree := h.tree.below hb (Nat.le_refl _)
  hold := h.hold.below hb (Nat.le_refl _)
  pars := h.pars
  items := by obtain ⟨n, h1⟩ := h.items; exact ⟨n, ownsMap_below h1 hb⟩
  mods := by obtain ⟨n, h1⟩ := h.mods; exact ⟨n, ownsMap_below h1 hb⟩
  low1 := h.low1
  low2 := h.low2
theorem TreeIs.lower {w : World} {B B' T M1 M2 : Nat} {v : Value} {ds : List Nd} {ss : List Sc} (h : TreeIs w B T M1 M2 v ds ss) (hB : B' ≤ B) : TreeIs w B' T M1 M2 v ds ss where
  tree := h.tree.lower hB
  hold := h.hold
  pars := h.pars
  items := h.items
  mods := h.mods
  low1 := Nat.le_trans hB h.low1
  low2 := Nat.le_trans hB h.low2
/-- What (*tree).node answers. -/
def NodeAt (ds : List Nd) (n : Int) (w : World) (e : Ending) (w' : World) : Prop :=
  (∃ (i : Nat) (d : Nd), n = (i : Int) ∧ ds[i]? = some d ∧ e = .returned (.tuple #[.pointer (some ⟨d.blk, 0, none⟩), .nilIface]) ∧ Below w.heap.size w w') ∨
  (¬ (0 ≤ n ∧ n < (ds.length : Int)) ∧ (∃ tp p, e = .returned (.tuple #[.pointer none, .iface tp p])) ∧ Below w.heap.size w w')
set_option maxRecDepth 100000 in
theorem node_any {w : World} {B T M1 M2 : Nat} {v : Value} {ds : List Nd} (h : Tree w B T M1 M2 v ds) (hne : ds ≠ []) (hE : IsErr w 11) (n : Int) :
    Calls Tryd.prog 126 #[.pointer (some ⟨T, 0, none⟩), .int .i64 n] w (NodeAt ds n w) := by
  obtain ⟨g, cap, rfl, hB, hg, hs⟩ := h.slot hne
  have b0 : w.cell? ⟨T, 0, none⟩ = some (.slice (some ⟨g, 0, none⟩) ds.length cap) := h.box.cell (by simp)
  obtain ⟨tp, p, he⟩ := hE
  by_cases h0 : n < 0
  · have k0 : decide (n < 0) = true := by simpa using h0
    have HN : Hid (¬ (0 ≤ n ∧ n < (ds.length : Int))) := Lib.hid (by omega)
    clear h hs
    go_enter Tryd.func126, Tryd.ntmps126
    go_wp2
    go_region
    all_goals go_wp2
    all_goals go_ret2
    all_goals exact .inr ⟨HN.out, ⟨tp, p, rfl⟩, (Below.refl _ _).drew⟩
  · obtain ⟨i, rfl⟩ : ∃ i : Nat, n = (i : Int) := ⟨n.toNat, by omega⟩
    have k0 : decide (((i : Nat) : Int) < 0) = false := by simp
    by_cases h1 : i < ds.length
    · obtain ⟨d, hd⟩ : ∃ d, ds[i]? = some d := ⟨_, List.getElem?_eq_getElem h1⟩
      have s1 := hs i d hd
      have k1 : decide (((ds.length : Nat) : Int) ≤ ((i : Nat) : Int)) = false := by simp; omega
      have HD := Lib.hid hd
      unfold Nd.ptr at s1
      clear h hs hd he
      go_enter Tryd.func126, Tryd.ntmps126
      go_wp2
      go_ret2
      exact .inl ⟨i, d, rfl, HD.out, rfl, Below.refl _ _⟩
    · have k1 : decide (((ds.length : Nat) : Int) ≤ ((i : Nat) : Int)) = true := by simp; omega
      have HN : Hid (¬ (0 ≤ (i : Int) ∧ (i : Int) < (ds.length : Int))) := Lib.hid (by omega)
      clear h hs
      go_enter Tryd.func126, Tryd.ntmps126
      go_wp2
      go_region
      all_goals go_wp2
      all_goals go_ret2
      all_goals exact .inr ⟨HN.out, ⟨tp, p, rfl⟩, (Below.refl _ _).drew⟩
/-- A valid graph and one of its scopes. -/
def HasScope (ss : List Sc) (n : Int) : Prop := Valid ss ∧ 0 ≤ n ∧ n < (ss.length : Int)
/-- What nodeOf answers. -/
def NodeGot (ss : List Sc) (n : Int) (w : World) (e : Ending) (w' : World) : Prop :=
  (¬ HasScope ss n ∧ (∃ tp p, e = .returned (.tuple #[.pointer none, .pointer none, .iface tp p])) ∧ Below w.heap.size w w') ∨
  (Valid ss ∧ ∃ (i : Nat) (d : Nd) (T M1 M2 : Nat) (v : Value) (ds : List Nd), n = (i : Int) ∧ i < ss.length ∧ ds[i]? = some d ∧ e = .returned (.tuple #[.pointer (some ⟨T, 0, none⟩), .pointer (some ⟨d.blk, 0, none⟩), .nilIface]) ∧ Below w.heap.size w w' ∧ TreeIs w' w.heap.size T M1 M2 v ds ss)
theorem TreeIs.ne {w : World} {B T M1 M2 : Nat} {v : Value} {ds : List Nd} {ss : List Sc} (h : TreeIs w B T M1 M2 v ds ss) (hv : Valid ss) : ds ≠ [] := fun e => by
  have h1 := h.hold.len
  have h2 := hv.count
  rw [e, List.length_nil] at h1
  omega
set_option maxRecDepth 100000 in
theorem nodeOf_any (ss : List Sc) (hF : Fair ss) (oa : Option Addr) (cap : Nat) (n : Int) (w : World) (hc : HoldsScopes w oa ss) (hE : NodeErrs w) :
    Calls Tryd.prog 132 #[.agg #[.slice oa ss.length cap], .int .i64 n] w (NodeGot ss n w) := by
  have hb0 := (Below.refl w.heap.size w).alloc (Nat.le_refl _) (.cells #[.slice oa ss.length cap] 30)
  have C := Lib.hid (hF.tree oa cap _ (hc.below hb0 (Nat.le_refl _)) (hE.at hb0).trees)
  have HB0 := Lib.hid hb0
  have HE := Lib.hid hE
  clear hF hc hE hb0
  go_enter Tryd.func132, Tryd.ntmps132
  go_wp2_with fail
  refine C.out.mono ?_
  rintro e w1 (⟨hv, ⟨tp, p, rfl⟩, hb⟩ | ⟨hv, T, M1, M2, v, ds, rfl, hb, hT⟩)
  · have HV : Hid (¬ HasScope ss n) := Lib.hid (fun h => hv h.1)
    have HB := Lib.hid (HB0.out.trans (hb.mono HB0.out.size))
    clear hv hb
    go_wp2
    go_ret3
    exact .inl ⟨HV.out, ⟨tp, p, rfl⟩, HB.out⟩
  · have HV := Lib.hid hv
    have HB := Lib.hid (HB0.out.trans (hb.mono HB0.out.size))
    have HT := Lib.hid hT
    have C2 := Lib.hid (node_any hT.tree (hT.ne hv) (HE.out.at HB.out).scope n)
    clear hv hb hT
    go_wp2_with fail
    refine C2.out.mono ?_
    rintro e w2 (⟨i, d, rfl, hd, rfl, hb2⟩ | ⟨hn, ⟨tp, p, rfl⟩, hb2⟩)
    · have HB2 := Lib.hid (HB.out.trans (hb2.mono HB.out.size))
      have HT2 := Lib.hid ((HT.out.below hb2).lower (show w.heap.size ≤ _ from by simp))
      have HD := Lib.hid hd
      have HI : Hid (i < ss.length) := Lib.hid (by have := (List.getElem?_eq_some_iff.1 hd).1; have := HT.out.hold.len; omega)
      clear hb2 hd
      go_wp2
      go_ret3
      exact .inr ⟨HV.out, i, d, T, M1, M2, v, ds, rfl, HI.out, HD.out, rfl, HB2.out, HT2.out⟩
    · have HB2 := Lib.hid (HB.out.trans (hb2.mono HB.out.size))
      have HN : Hid (¬ HasScope ss n) := Lib.hid (fun h => hn ⟨h.2.1, by rw [HT.out.hold.len]; exact h.2.2⟩)
      clear hb2 hn
      go_wp2
      go_ret3
      exact .inl ⟨HN.out, ⟨tp, p, rfl⟩, HB2.out⟩
end Go.Proofs.YtadpgoiiopfnnaaDoor
