/-
  The walks of impl's (*lookup).reach and ImportCircles. Conditions: the argument's memory holds the graph; the package-level errors hold errors.
-/
import Derived.Test.YtmfglfhloahmlaaDoorWTarget
import Derived.Test.YtmfglfhloahmlaaDoorWSet
import Derived.Test.YtmfglfhloahmlaaDoorReach
namespace Go.Proofs.YtmfglfhloahmlaaDoor
open Go Go.RowKit Go.Maps
theorem setV_bool {p : Nat → Bool} {i : Nat} {v : Value} (h : (setV p)[i]? = some v) : ∃ b, v = .bool b := by
  have hi : i < 6 := by
    have := (List.getElem?_eq_some_iff.1 h).1
    simpa [setV] using this
  rw [setV_get p i hi] at h
  exact ⟨_, (Option.some.inj h).symm⟩
theorem Row.cell_inv {w : World} {g : Nat} {t : TypeId} {vs : List Value} (h : Row w g t vs) {i : Nat} {v : Value} (hc : w.cell? ⟨g, i, none⟩ = some v) : vs[i]? = some v := by
  unfold Row at h
  simpa [World.cell?, h] using hc
theorem Tree.keptG {w w' : World} {B T M1 M2 G : Nat} {v : Value} {ds : List Nd} {p : Nat → Bool} (h : Tree w B T M1 M2 v ds) (hs : Row w G 94 (setV p)) (hk : ∀ g vs t, g ≠ G → w.heap[g]? = some (.cells vs t (0, 0)) → w'.heap[g]? = w.heap[g]?) : Tree w' B T M1 M2 v ds where
  low := h.low
  box := h.box.same (hk T _ _ (h.box.neq hs (by decide)) h.box)
  ptrs := by
    obtain ⟨hl, h2 | ⟨g, cap, cur, hv, hB, hh, hr⟩⟩ := h.ptrs
    · exact ⟨hl, .inl h2⟩
    · refine ⟨hl, .inr ⟨g, cap, cur, hv, hB, (hk g _ _ ?_ hh).trans hh, hr⟩⟩
      rintro rfl
      unfold Row at hs
      rw [hs] at hh
      simp at hh
      all_goals exact absurd hh.2 (by decide)
  node := fun i d hd => ⟨(h.node i d hd).1, (h.node i d hd).2.same (hk _ _ _ ((h.node i d hd).2.neq hs (by decide)) (h.node i d hd).2)⟩
  inj := h.inj
  pars := h.pars
theorem HoldsItems.keptG {w w' : World} {oa : Option Addr} {xs : List It} {G : Nat} {p : Nat → Bool} (h : HoldsItems w oa xs) (hs : Row w G 94 (setV p)) (hz : w.heap.size ≤ w'.heap.size) (hk : ∀ g, g < w.heap.size → g ≠ G → ∀ o v, w.cell? ⟨g, o, none⟩ = some v → w'.cell? ⟨g, o, none⟩ = some v) : HoldsItems w' oa xs := by
  rcases h with h | ⟨b, off, h1, h2, h3⟩
  · exact .inl h
  · refine .inr ⟨b, off, h1, Nat.lt_of_lt_of_le h2 hz, fun i x hx => ?_⟩
    obtain ⟨k0, k1, k2⟩ := h3 i x hx
    have hne : b ≠ G := by
      rintro rfl
      obtain ⟨q, hq⟩ := setV_bool (hs.cell_inv k0)
      cases hq
    exact ⟨hk b h2 hne _ _ k0, hk b h2 hne _ _ k1, hk b h2 hne _ _ k2⟩
/-- Where the map of targets and a set of scopes alone have turned. -/
theorem LookW.turnedG {w w' : World} {B L M T M1 M2 G : Nat} {v : Value} {ds : List Nd} {ss : List Sc} {p : Nat → Bool} (h : LookW w B L M T M1 M2 v ds ss) (hs : Row w G 94 (setV p)) (ht : Turns w w' M G) (hm : Memo w' M ss) : LookW w' B L M T M1 M2 v ds ss := by
  have hcell : ∀ g vs t, g ≠ G → w.heap[g]? = some (.cells vs t (0, 0)) → w'.heap[g]? = w.heap[g]? := fun g vs t hg hh => by
    have hne : g ≠ M := by
      rintro rfl
      obtain ⟨es, clock, h1⟩ := h.memo.block
      rw [hh] at h1
      cases h1
    exact ht.rest g (Array.getElem?_eq_some_iff.1 hh).1 hne hg
  have hmap : ∀ g es clock, g ≠ M → w.heap[g]? = some (.map es clock) → w'.heap[g]? = some (.map es clock) := fun g es clock hg hh => by
    have hne : g ≠ G := by
      rintro rfl
      unfold Row at hs
      rw [hh] at hs
      cases hs
    exact (ht.rest g (Array.getElem?_eq_some_iff.1 hh).1 hg hne).trans hh
  refine ⟨{ tree := h.tree.tree.keptG hs hcell, hold := ⟨h.tree.hold.len, fun i d s hd hs' => ?_⟩, pars := h.tree.pars, items := ?_, mods := ?_, low1 := h.tree.low1, low2 := h.tree.low2 }, h.box.same (hcell L _ _ (h.box.neq hs (by decide)) h.box), hm, h.ne1, h.ne2⟩
  · obtain ⟨oi, ci, h1, h2⟩ := h.tree.hold.items i d s hd hs'
    refine ⟨oi, ci, h1, h2.keptG hs ht.size fun g hg hgG o v hc => ?_⟩
    have hgM : g ≠ M := by
      rintro rfl
      obtain ⟨es, clock, h1⟩ := h.memo.block
      simp [World.cell?, h1] at hc
    exact (World.cell?_of_block (a := ⟨g, o, none⟩) (ht.rest g hg hgM hgG)).trans hc
  · obtain ⟨n, es, clock, hh, r⟩ := h.tree.items
    exact ⟨n, es, clock, hmap _ _ _ h.ne1 hh, r⟩
  · obtain ⟨n, es, clock, hh, r⟩ := h.tree.mods
    exact ⟨n, es, clock, hmap _ _ _ h.ne2 hh, r⟩
theorem Turns.more {w w' : World} {M G : Nat} (h : Turns w w' M M) : Turns w w' M G := ⟨h.os, h.tape, h.output, h.size, fun g hg h1 _ => h.rest g hg h1 h1⟩
theorem ownsRow_turns {w w' : World} {base n size M G : Nat} {e : TypeId} {u : Value} {xs : List Value} (h : w.ownsRow base e size u n xs) (ht : Turns w w' M G) (hM : M < base) (hG : G < base) : w'.ownsRow base e size u n xs := by
  obtain ⟨h1, h2 | ⟨g, cap, cur, hv, hB, hh, r⟩⟩ := h
  · exact ⟨h1, .inl h2⟩
  · exact ⟨h1, .inr ⟨g, cap, cur, hv, hB, (ht.rest g (Array.getElem?_eq_some_iff.1 hh).1 (by omega) (by omega)).trans hh, r⟩⟩
theorem setV_put1 {S : Nat → Bool} {i : Nat} (hi : i < 6) : (setV S).set i (.bool true) = setV (putS S i) := by
  rcases (show i = 0 ∨ i = 1 ∨ i = 2 ∨ i = 3 ∨ i = 4 ∨ i = 5 by omega) with rfl | rfl | rfl | rfl | rfl | rfl <;> simp [setV, putS]
/-- What reach leaves. -/
structure ReachLeft (src : List Nat) (S S' : Nat → Bool) (G : Nat) (w w' : World) (B L M T M1 M2 : Nat) (v : Value) (ds : List Nd) (ss : List Sc) : Prop where
  dfs : Dfs ss src S S'
  look : LookW w' B L M T M1 M2 v ds ss
  set : Row w' G 94 (setV S')
  turns : Turns w w' M G
theorem ints_at {l : List Nat} {k m : Nat} (h : l[k]? = some m) : (natInts l)[k]? = some (m : Int) := by
  unfold natInts
  rw [List.getElem?_map, h]; rfl
set_option maxRecDepth 100000 in
set_option maxHeartbeats 4000000 in
theorem reach_any {ss : List Sc} (hv : Valid ss) {B L M T M1 M2 G : Nat} {v : Value} {ds : List Nd} (n : Nat) : ∀ (S : Nat → Bool), gaps S ≤ n → ∀ (s : Nat) (d : Nd), ds[s]? = some d → ∀ w : World, LookW w B L M T M1 M2 v ds ss → Row w G 94 (setV S) →
    Calls Tryd.prog 66 #[.pointer (some ⟨L, 0, none⟩), .pointer (some ⟨d.blk, 0, none⟩), .pointer (some ⟨G, 0, none⟩)] w fun e w' => e = .returned (.tuple #[]) ∧ ∃ S', ReachLeft (impP ss s) S S' G w w' B L M T M1 M2 v ds ss := by
  induction n using Nat.strongRecOn with
  | _ n ih =>
  intro S hS s d hd w hL hG
  have C := Lib.hid (importsOf_any hv hL hd (target_any hv s))
  have HV := Lib.hid hv
  have HL := Lib.hid hL
  have HG := Lib.hid hG
  have HIH := Lib.hid ih
  have HS := Lib.hid hS
  have HGL := Lib.hid hG.lt
  have HML := Lib.hid hL.memo.lt
  have HOK := Lib.hid (impP_ok hv s)
  have HLEN := Lib.hid (impP_length hv s)
  clear hv hL hG ih hS hd
  go_enter Tryd.func66, Tryd.ntmps66
  go_wp2_with fail
  refine C.out.mono ?_
  rintro e w1 ⟨u, rfl, hrow, hl1⟩
  have HROW := Lib.hid hrow
  obtain ⟨ou, cu, rfl, -⟩ := holdsInts_of_owns hrow
  have hnl : (natInts (impP ss s)).length = (impP ss s).length := natInts_length _
  rw [hnl] at HROW ⊢
  have HL1 := Lib.hid hl1.look
  have HT1 : Hid (Turns w w1 M G) := Lib.hid hl1.turns.more
  have HG1 : Hid (Row w1 G 94 (setV S)) := Lib.hid ((hl1.turns.cellsM HL.out.memo).block _ _ _ _ HGL.out HG.out)
  have hpl := HLEN.out
  clear hrow hl1 hnl
  go_wp2
  go_loopw [12] (fun i wr => ∃ (k : Nat) (Sk : Nat → Bool), i = .int .i64 k ∧ k ≤ (impP ss s).length ∧ Hid (ReachLeft ((impP ss s).take k) S Sk G w1 wr B L M T M1 M2 v ds ss)) (fun i _ => (impP ss s).length - (intOf i).toNat)
  case atStart => exact ⟨0, S, rfl, Nat.zero_le _, Lib.hid ⟨.nil _ _, HL1.out, HG1.out, Turns.refl _ _ _⟩⟩
  case round =>
    obtain ⟨k, Sk, rfl, hk, hP⟩ := hrel
    by_cases hlt : k < (impP ss s).length
    · obtain ⟨m, hm⟩ : ∃ m, (impP ss s)[k]? = some m := ⟨_, List.getElem?_eq_getElem hlt⟩
      have hml := HOK.out.1 m (List.mem_of_getElem? hm)
      have h6 := HV.out.count.2
      have hm6 : m < 6 := by omega
      obtain ⟨d2, hd2⟩ : ∃ d2, ds[m]? = some d2 := ⟨_, List.getElem?_eq_getElem (by have := HL.out.tree.hold.len; omega)⟩
      obtain ⟨o2, c2, he2, hh2⟩ := holdsInts_of_owns (ownsRow_turns HROW.out hP.out.turns HML.out HGL.out)
      have ho2 : ou = o2 := by
        simp only [Value.slice.injEq] at he2
        exact he2.1
      subst ho2
      obtain ⟨b2, f2, rfl, hb2, hcell2⟩ := hh2.at (by rw [natInts_length]; omega)
      have x0 := hcell2 k (m : Int) (ints_at hm)
      have HTK : Hid ((impP ss s).take (k + 1) = (impP ss s).take k ++ [m]) := Lib.hid (by rw [List.take_add_one, hm]; rfl)
      have g0 := hP.out.set.cell (setV_get Sk m hm6)
      have gf := hP.out.set.frozen m
      have HD2 := Lib.hid hd2
      clear hm hd2 he2 hh2 hcell2
      cases hSm : Sk m
      · rw [hSm] at g0
        have HSM := Lib.hid hSm
        clear hSm
        go_upto_region 5 with (fail)
        have hW : ∃ W, wr.setCell ⟨G, m, none⟩ (.bool true) = W := ⟨_, rfl⟩
        obtain ⟨W, hW⟩ := hW
        have HGW : Hid (Row W G 94 (setV (putS Sk m))) := Lib.hid (by
          have := hP.out.set.set m (.bool true)
          rw [setV_put1 hm6, hW] at this
          exact this)
        have hturn : Turns wr W M G := by
          rw [← hW]
          exact ⟨rfl, rfl, rfl, by simp, fun g _ _ h2 => Below.heap_setCell _ _ _ _ h2⟩
        have HMW : Hid (Memo W M ss) := Lib.hid (hP.out.look.memo.same (by
          rw [← hW]
          refine Below.heap_setCell _ _ _ _ ?_
          rintro rfl
          obtain ⟨es, clock, h1⟩ := hP.out.look.memo.block
          have h2 := hP.out.set
          unfold Row at h2
          rw [h1] at h2
          cases h2))
        have HLW := Lib.hid (hP.out.look.turnedG hP.out.set hturn HMW.out)
        have HTW := Lib.hid (hP.out.turns.trans hturn)
        rw [hW]
        clear hW hturn g0 gf x0
        obtain ⟨gp, capp, rfl, hgB, hgp, hslot⟩ := HLW.out.tree.tree.slot (by intro e; have := HD2.out; rw [e] at this; simp at this)
        have s0 := hslot m d2 HD2.out
        unfold Nd.ptr at s0
        have t0 := HLW.out.tree.tree.box.cell (i := 0) (by rfl)
        have l0 := HLW.out.box.cell (i := 0) (by rfl)
        have hdl := HLW.out.tree.hold.len
        have hgap : gaps (putS Sk m) < n := by
          have h1 := gaps_put hm6 HSM.out
          have h2 := hP.out.dfs.gaps
          have h3 := HS.out
          omega
        have C2 := Lib.hid (HIH.out (gaps (putS Sk m)) hgap (putS Sk m) (Nat.le_refl _) m d2 HD2.out W HLW.out HGW.out)
        clear hslot hgap
        go_wp2_with fail
        refine C2.out.mono ?_
        rintro e w2 ⟨rfl, S2, hr⟩
        have HR : Hid (ReachLeft ((impP ss s).take (k + 1)) S S2 G w1 w2 B L M T M1 M2 (.slice (some ⟨gp, 0, none⟩) ds.length capp) ds ss) := Lib.hid ⟨by rw [HTK.out]; exact hP.out.dfs.new hr.dfs, hr.look, hr.set, HTW.out.trans hr.turns⟩
        clear hr s0 t0 l0
        go_wp2
        go_roundw
        case rel => exact ⟨k + 1, S2, by go_num, by omega, HR⟩
        case measure => simp only [intOf]; omega
      · rw [hSm] at g0
        have HR : Hid (ReachLeft ((impP ss s).take (k + 1)) S Sk G w1 wr B L M T M1 M2 v ds ss) := Lib.hid ⟨by rw [HTK.out]; exact hP.out.dfs.old hSm, hP.out.look, hP.out.set, hP.out.turns⟩
        clear hSm
        go_wp2
        go_roundw
        case rel => exact ⟨k + 1, Sk, by go_num, by omega, HR⟩
        case measure => simp only [intOf]; omega
    · obtain rfl : k = (impP ss s).length := by omega
      have HR : Hid (ReachLeft (impP ss s) S Sk G w wr B L M T M1 M2 v ds ss) := Lib.hid ⟨by have := hP.out.dfs; rwa [List.take_length] at this, hP.out.look, hP.out.set, HT1.out.trans hP.out.turns⟩
      go_wp2
      go_end0
      exact ⟨rfl, Sk, HR.out⟩
end Go.Proofs.YtmfglfhloahmlaaDoor
