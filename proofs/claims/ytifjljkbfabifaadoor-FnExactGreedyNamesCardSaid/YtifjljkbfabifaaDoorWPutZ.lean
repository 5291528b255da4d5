/-
  The walks of impl's taking, putting, the closures that they hand back, and (Graph).with over whatever edits. Conditions: the argument's memory holds the graph; each edit does what is told of it.
-/
import Derived.Test.YtifjljkbfabifaaDoorJCZ
namespace Go.Proofs.YtifjljkbfabifaaDoor
open Go Go.RowKit
/-- What an edit does to a graph in a box, in every world behind w. -/
def EditOk (w : World) (u : Value) (us tt : List Sc) : Prop := ∃ (f : Nat) (pb lb : Array Value), u = .func (.func f) pb lb ∧ (pb = #[] ∨ ∃ r, pb = #[r]) ∧ (∀ args W, (callFunc f args).run Tryd.prog W = .ok (.enter f args) W) ∧
  ∀ (W : World) (B g gs cs : Nat) (hs : List Value), Below w.heap.size w W → w.heap.size ≤ B → B ≤ W.heap.size → GrIn W B g gs cs us hs →
    Calls Tryd.prog f (pb ++ #[.pointer (some ⟨g, 0, none⟩)] ++ lb) W fun e W' => (∃ v, e = .returned v) ∧ ∃ hs', GrIn W' B g gs cs tt hs' ∧ Below B W W'
inductive Edits (w : World) : List Value → List Sc → List Sc → Prop
  | nil (ss : List Sc) : Edits w [] ss ss
  | cons {u : Value} {es : List Value} {ss tt uu : List Sc} (h : EditOk w u ss tt) (k : Edits w es tt uu) : Edits w (u :: es) ss uu
/-- The cells of a slice of edits. -/
def HoldsFuncs (w : World) (oe : Option Addr) (es : List Value) : Prop := es = [] ∨ ∃ b off, oe = some ⟨b, off, none⟩ ∧ b < w.heap.size ∧ ∀ i u, es[i]? = some u → w.cell? ⟨b, off + i, none⟩ = some u
theorem HoldsFuncs.at {w : World} {oe : Option Addr} {es : List Value} (h : HoldsFuncs w oe es) {k : Nat} {u : Value} (hu : es[k]? = some u) : ∃ b off, oe = some ⟨b, off, none⟩ ∧ b < w.heap.size ∧ w.cell? ⟨b, off + k, none⟩ = some u := by
  rcases h with h | ⟨b, off, h1, h2, h3⟩
  · subst h; simp at hu
  · exact ⟨b, off, h1, h2, h3 k u hu⟩
set_option maxRecDepth 100000 in
set_option maxHeartbeats 4000000 in
theorem with_any (ss tt : List Sc) (hF : Fair ss) (h1 : 1 ≤ ss.length) (oa oe : Option Addr) (cap ce : Nat) (es : List Value) (hes : es.length ≤ 1000) (w : World) (hc : HoldsScopes w oa ss) (he : HoldsFuncs w oe es) (hE : Edits w es ss tt) :
    Calls Tryd.prog 168 #[.agg #[.slice oa ss.length cap], .slice oe es.length ce] w fun e w' => ∃ v hs, e = .returned (.agg #[v]) ∧ OwnGr w' w.heap.size v tt hs ∧ Below w.heap.size w w' := by
  have hb0 : Below w.heap.size w ((w.alloc (.cells #[.slice oa ss.length cap] 30)).alloc (.cells #[.slice none 0 0] 30)) := ((Below.refl _ _).alloc (Nat.le_refl _) _).alloc (by simp) _
  have R1 := (Row.new w [.slice oa ss.length cap] 30).alloc (.cells #[.slice none 0 0] 30)
  have R3 := Row.new (w.alloc (.cells #[.slice oa ss.length cap] 30)) [.slice none 0 0] 30
  rw [World.size_alloc] at R3
  have C := Lib.hid (implClone_any ss oa cap hF.count (fun t ht => by have := hF.items t ht; omega) _ (hc.below hb0 (Nat.le_refl _)))
  have HB := Lib.hid hb0
  have HR3 := Lib.hid R3
  have HE := Lib.hid (And.intro he hE)
  have g1 := R1.cell (i := 0) (by rfl)
  have hsz0 : Hid (((w.alloc (.cells #[.slice oa ss.length cap] 30)).alloc (.cells #[.slice none 0 0] 30)).heap.size = w.heap.size + 2) := Lib.hid (by simp)
  clear hF hc hb0 R1 R3 he hE
  go_enter Tryd.func168, Tryd.ntmps168
  go_wp2_with fail
  refine C.out.mono ?_
  rintro e w1 ⟨v, hs, rfl, hO, hb1⟩
  obtain ⟨gs, cs, rfl⟩ : ∃ gs cs, v = .slice (some ⟨gs, 0, none⟩) ss.length cs := by
    obtain ⟨hl, h2 | ⟨g, c, cur, hv, hB, hh, _⟩⟩ := hO.row
    · have := h2.2; omega
    · exact ⟨g, c, hv⟩
  have hbA := (Below.refl w1.heap.size w1).alloc (Nat.le_refl _) (.cells #[.slice (some ⟨gs, 0, none⟩) ss.length cs] 30)
  have HB1 := Lib.hid (HB.out.trans ((hb1.trans (hbA.mono hb1.size)).mono HB.out.size))
  have HO := Lib.hid (hO.below hbA)
  have HR3a := Lib.hid (HR3.out.below (hb1.trans (hbA.mono hb1.size)) HR3.out.lt)
  have RH := Lib.hid (Row.new w1 [.slice (some ⟨gs, 0, none⟩) ss.length cs] 30)
  have hsB : w.heap.size + 2 ≤ w1.heap.size := by have := hb1.size; rw [hsz0.out] at this; exact this
  have HGI : Hid (GrIn (w1.alloc (.cells #[.slice (some ⟨gs, 0, none⟩) ss.length cs] 30)) (w.heap.size + 2) w1.heap.size gs cs ss hs) := Lib.hid ⟨RH.out, by have h := HO.out; rw [hsz0.out] at h; exact h⟩
  have HSB := Lib.hid hsB
  clear hO hb1 hbA g1 hsB
  go_wp2
  go_loopw [12] (fun i wr => ∃ (k : Nat) (us : List Sc) (ks : List Value), i = .int .i64 k ∧ k ≤ es.length ∧ Hid (Edits w (es.drop k) us tt ∧ GrIn wr (w.heap.size + 2) w1.heap.size gs cs us ks ∧ Below w.heap.size w wr ∧ Row wr (w.heap.size + 1) 30 [.slice none 0 0] ∧ w.heap.size + 2 ≤ wr.heap.size)) (fun i _ => es.length - (intOf i).toNat)
  case atStart => exact ⟨0, ss, hs, rfl, Nat.zero_le _, Lib.hid ⟨by simpa using HE.out.2, HGI.out, HB1.out, HR3a.out, by have := HSB.out; simp; omega⟩⟩
  case round =>
    obtain ⟨k, us, ks, rfl, hk, hP⟩ := hrel
    by_cases hlt : k < es.length
    · obtain ⟨u, hu⟩ : ∃ u, es[k]? = some u := ⟨_, List.getElem?_eq_getElem hlt⟩
      have hdrop : es.drop k = u :: es.drop (k + 1) := by
        rw [List.drop_eq_getElem_cons hlt]
        rw [List.getElem?_eq_getElem hlt] at hu
        rw [Option.some.inj hu]
      obtain ⟨b, off, rfl, hbb, hcu⟩ := HE.out.1.at hu
      have hPE := hP.out.1
      rw [hdrop] at hPE
      obtain ⟨mm, hme, hmr⟩ : ∃ mm, EditOk w u us mm ∧ Edits w (es.drop (k + 1)) mm tt := by
        cases hPE with
        | cons h k => exact ⟨_, h, k⟩
      obtain ⟨f, pb, lb, rfl, hpb, hen, hcall⟩ := hme
      have hcw := hcall wr (w.heap.size + 2) w1.heap.size gs cs ks hP.out.2.2.1 (by omega) hP.out.2.2.2.2 hP.out.2.1
      have cu := (hP.out.2.2.1.cell (p := ⟨b, off + k, none⟩) hbb).trans hcu
      have HMR := Lib.hid hmr
      clear hcall hmr hPE hdrop hcu hu
      rcases hpb with rfl | ⟨rv, rfl⟩
      · have D := Lib.hid hcw
        go_wp2_with fail
        refine D.out.mono ?_
        rintro e w3 ⟨⟨v3, rfl⟩, ks3, hG3, hb3⟩
        have HP3 := Lib.hid (And.intro HMR.out (And.intro hG3 (And.intro (hP.out.2.2.1.trans (hb3.mono (by omega))) (And.intro (hP.out.2.2.2.1.below hb3 (by omega)) (Nat.le_trans hP.out.2.2.2.2 hb3.size)))))
        clear hG3 hb3 cu
        go_wp2
        go_roundw
        case rel => exact ⟨k + 1, _, ks3, by go_num, by omega, HP3⟩
        case measure => simp only [intOf]; omega
      · have D := Lib.hid hcw
        go_wp2_with fail
        refine D.out.mono ?_
        rintro e w3 ⟨⟨v3, rfl⟩, ks3, hG3, hb3⟩
        have HP3 := Lib.hid (And.intro HMR.out (And.intro hG3 (And.intro (hP.out.2.2.1.trans (hb3.mono (by omega))) (And.intro (hP.out.2.2.2.1.below hb3 (by omega)) (Nat.le_trans hP.out.2.2.2.2 hb3.size)))))
        clear hG3 hb3 cu
        go_wp2
        go_roundw
        case rel => exact ⟨k + 1, _, ks3, by go_num, by omega, HP3⟩
        case measure => simp only [intOf]; omega
    · obtain rfl : k = es.length := by omega
      have hend : us = tt := by
        have h := hP.out.1
        rw [List.drop_length] at h
        cases h
        rfl
      subst hend
      have r0 := hP.out.2.1.row.cell (i := 0) (by rfl)
      have n0 := hP.out.2.2.2.1.cell (i := 0) (v := .slice none 0 0) (by rfl)
      have f0 := hP.out.2.2.2.1.frozen 0
      go_wp2
      have RT := hP.out.2.2.2.1.set 0 (.slice (some ⟨gs, 0, none⟩) us.length cs)
      have d0 := RT.cell (i := 0) (v := .slice (some ⟨gs, 0, none⟩) us.length cs) (by rfl)
      refine bodyPost_ret (v := .agg #[.slice (some ⟨gs, 0, none⟩) us.length cs]) (by simp [results, Tryd.results168, go_sem, d0]) rfl ⟨_, ks, rfl, ?_, hP.out.2.2.1.setCell (by simp) _⟩
      refine OwnGr.lower (B := w.heap.size + 2) ?_ (by omega)
      exact ⟨hP.out.2.1.own.len, ownsRow_otherN hP.out.2.1.own.row hP.out.2.2.2.1 (by decide) 0 _, fun k t z h1 h2 => ownsRow_otherN (hP.out.2.1.own.items k t z h1 h2) hP.out.2.2.2.1 (by decide) 0 _, hP.out.2.1.own.apart⟩
end Go.Proofs.YtifjljkbfabifaaDoor
