/-
  The walks of ModuleOf, the given one and impl's. Conditions: the argument's memory holds the graph; the package-level errors hold errors.
-/
import Derived.Test.YtppgdigcopkeiaaDoorLookP
import Derived.Test.YtppgdigcopkeiaaDoorWItemAt
import Derived.Test.YtppgdigcopkeiaaDoorWNode
namespace Go.Proofs.YtppgdigcopkeiaaDoor
open Go Go.RowKit Go.Maps
theorem find_atG {α : Type} {l : List α} {p : α → Bool} {k : Nat} {x : α} (hx : l[k]? = some x) (hp : p x = true) (hn : ∀ m, m ∈ l.take k → p m = false) : l.find? p = some x := by
  have hk := (List.getElem?_eq_some_iff.1 hx).1
  have e : l = l.take k ++ x :: l.drop (k + 1) := by
    have h1 := List.drop_eq_getElem_cons hk
    rw [(List.getElem?_eq_some_iff.1 hx).2] at h1
    rw [← h1, List.take_append_drop]
  rw [e, List.find?_append, List.find?_cons_of_pos hp, List.find?_eq_none.2 (fun m hm => by simp [hn m hm])]
  rfl
theorem field_kind (k s : Int) (nm : ByteArray) (w : World) : (Instr.field 60 (.agg #[.int .i64 k, .string nm, .int .i64 s]) 0).run Tryd.prog w = .ok (.int .i64 k) w := by kernel_rfl
theorem field_name (k s : Int) (nm : ByteArray) (w : World) : (Instr.field 60 (.agg #[.int .i64 k, .string nm, .int .i64 s]) 1).run Tryd.prog w = .ok (.string nm) w := by kernel_rfl
theorem field_scope (k s : Int) (nm : ByteArray) (w : World) : (Instr.field 60 (.agg #[.int .i64 k, .string nm, .int .i64 s]) 2).run Tryd.prog w = .ok (.int .i64 s) w := by kernel_rfl
attribute [local go_sem ↓] field_kind field_name field_scope
/-- What ModuleOf answers. -/
def moduleR (ss : List Sc) (n a b : Int) (ok : Bool) : Prop := (¬ HasScope ss n ∧ a = 0 ∧ b = 0 ∧ ok = false) ∨ (HasScope ss n ∧ modR ss n a b ok)
theorem moduleR.same {ss : List Sc} {n a b c d : Int} {ok ok' : Bool} (h : moduleR ss n a b ok) (k : moduleR ss n c d ok') : a = c ∧ b = d ∧ ok = ok' := by
  rcases h with ⟨h1, rfl, rfl, rfl⟩ | ⟨h1, h2⟩ <;> rcases k with ⟨k1, rfl, rfl, rfl⟩ | ⟨k1, k2⟩
  · exact ⟨rfl, rfl, rfl⟩
  · exact absurd k1 h1
  · exact absurd h1 k1
  · exact h2.same k2
def plV (a b : Int) : Value := .agg #[.int .i64 a, .int .i64 b]
/-- What ModuleOf leaves. -/
def ModuleGot (ss : List Sc) (n : Int) (w : World) (e : Ending) (w' : World) : Prop := ∃ a b ok, e = .returned (.tuple #[.agg #[.int .i64 a, .int .i64 b], .bool ok]) ∧ moduleR ss n a b ok ∧ Below w.heap.size w w'
set_option maxRecDepth 100000 in
set_option maxHeartbeats 1600000 in
theorem specModule_any (ss : List Sc) (hf : FitsScopes ss) (oa : Option Addr) (cap : Nat) (n : Int) (w : World) (hc : HoldsScopes w oa ss) :
    Calls Tryd.prog 55 #[.agg #[.slice oa ss.length cap], .int .i64 n] w (ModuleGot ss n w) := by
  have hb0 := ((Below.refl w.heap.size w).alloc (Nat.le_refl _) (.cells #[.slice oa ss.length cap] 30)).alloc (by simp) (.cells #[.int .i64 0, .int .i64 0] 34)
  have C := Lib.hid (specScope_any ss hf oa cap n _ (hc.below hb0 (Nat.le_refl _)))
  have RG := Lib.hid ((Row.new w [.slice oa ss.length cap] 30).alloc (.cells #[.int .i64 0, .int .i64 0] 34))
  have hRR := Row.new (w.alloc (.cells #[.slice oa ss.length cap] 30)) [.int .i64 0, .int .i64 0] 34
  rw [World.size_alloc] at hRR
  have RR := Lib.hid hRR
  have HB0 := Lib.hid hb0
  have HC := Lib.hid hc
  have HF := Lib.hid hf
  clear hf hc hb0 hRR
  go_enter Tryd.func55, Tryd.ntmps55
  go_wp2_with fail
  refine C.out.mono ?_
  rintro e w1 ⟨b, rfl, hv, hb⟩
  have HB := Lib.hid (HB0.out.trans (hb.mono HB0.out.size))
  have RG1 := Lib.hid (RG.out.below hb RG.out.lt)
  have RR1 := Lib.hid (RR.out.below hb RR.out.lt)
  have g1 := RG1.out.cell (i := 0) (by rfl)
  have HV := Lib.hid hv
  clear hb hv
  cases b
  · have HN : Hid (¬ HasScope ss n) := Lib.hid (fun h => by have := HV.out.2 h; cases this)
    have r0 := RR1.out.cell (i := 0) (by rfl)
    have r1 := RR1.out.cell (i := 1) (by rfl)
    have f0 : ∀ k, w1.frozen? ⟨w.heap.size + 1, k, none⟩ = false := fun k => RR1.out.frozen k
    go_wp2
    refine bodyPost_ret (v := .tuple #[.agg #[.int .i64 0, .int .i64 0], .bool false]) (by simp [results, Tryd.results55, go_sem, r0, r1]) rfl ⟨0, 0, false, rfl, .inl ⟨HN.out, rfl, rfl, rfl⟩, ?_⟩
    exact (HB.out.setCell (by simp) _).setCell (by simp) _
  · have HH := Lib.hid (HV.out.1 rfl)
    have C2 := Lib.hid (l1Places_any ss HH.out.1.count.2 HH.out.1.five oa cap 1 _ (HC.out.below HB.out (Nat.le_refl _)))
    go_wp2_with fail
    refine C2.out.mono ?_
    rintro e w2 ⟨v, rfl, hrow, hb2⟩
    obtain ⟨o2, cap2, rfl, harg⟩ := argPlaces_of_owns hrow
    have HB2 := Lib.hid (HB.out.trans (hb2.mono HB.out.size))
    have RG2 := Lib.hid (RG1.out.below hb2 RG1.out.lt)
    have RR2 := Lib.hid (RR1.out.below hb2 RR1.out.lt)
    have HA := Lib.hid harg
    have hpl : (plsP ss 1).length ≤ 30 := by
      have h1 := plsOf_length 1 (placed 0 ss)
      have h2 := placed_bound 0 ss 6 5 HH.out.1.count.2 HH.out.1.five
      unfold plsP
      omega
    clear hb2 hrow harg g1
    go_wp2
    go_loopw [16] (fun c wr => ∃ k : Nat, c = .int .i64 k ∧ k ≤ (plsP ss 1).length ∧ Hid (∀ q, q ∈ (declsP ss).take k → (q.2.2.scope == n) = false) ∧ Below w2.heap.size w2 wr) (fun c _ => (plsP ss 1).length - (intOf c).toNat)
    case atStart => exact ⟨0, rfl, Nat.zero_le _, Lib.hid (by simp), Below.refl _ _⟩
    case round =>
      obtain ⟨k, rfl, hk, hno, hb⟩ := hrel
      by_cases hlt : k < (plsP ss 1).length
      · obtain ⟨q, hq⟩ : ∃ q, (declsP ss)[k]? = some q := ⟨_, List.getElem?_eq_getElem (by rw [declsP_pls, List.length_map] at hlt; exact hlt)⟩
        have hp : (plsP ss 1)[k]? = some ((q.1 : Int), (q.2.1 : Int)) := by rw [declsP_pls, List.getElem?_map, hq]; rfl
        obtain ⟨b1, f1, rfl, hb1, q1⟩ := HA.out.at (by omega)
        obtain ⟨a0, a1⟩ := (q1.below hb hb1) k _ hp
        have hmem : q ∈ placed 0 ss := (List.mem_filter.1 (List.mem_of_getElem? hq)).1
        obtain ⟨s, _, hs, hx⟩ := mem_placed.1 hmem
        simp only [Nat.sub_zero] at hs
        have HQ := Lib.hid hq
        have HBR := Lib.hid hb
        have hbP := (Below.refl wr.heap.size wr).alloc (Nat.le_refl _) (.cells #[.int .i64 (q.1 : Int), .int .i64 (q.2.1 : Int)] 34)
        have HB3 := Lib.hid (HB2.out.trans ((hb.mono HB2.out.size).trans (hbP.mono (Nat.le_trans HB2.out.size hb.size))))
        have RP := Lib.hid (Row.new wr [.int .i64 (q.1 : Int), .int .i64 (q.2.1 : Int)] 34)
        have RG3 := Lib.hid ((RG2.out.below hb RG2.out.lt).alloc (.cells #[.int .i64 (q.1 : Int), .int .i64 (q.2.1 : Int)] 34))
        have RR3 := Lib.hid ((RR2.out.below hb RR2.out.lt).alloc (.cells #[.int .i64 (q.1 : Int), .int .i64 (q.2.1 : Int)] 34))
        have C3 := Lib.hid (specAt_any ss HF.out oa cap q.1 q.2.1 s q.2.2 hs hx _ (HC.out.below HB3.out (Nat.le_refl _)))
        have HBN : Hid (Below w2.heap.size w2 (wr.alloc (.cells #[.int .i64 (q.1 : Int), .int .i64 (q.2.1 : Int)] 34))) := Lib.hid (hb.trans (hbP.mono hb.size))
        have g3 := RG3.out.cell (i := 0) (by rfl)
        clear hq hp q1 hmem hs hx hb hbP
        go_wp2_with fail
        refine C3.out.mono ?_
        rintro e w4 ⟨rfl, hb4⟩
        have HB4 := Lib.hid (HB3.out.trans (hb4.mono HB3.out.size))
        have HBN4 := Lib.hid (HBN.out.trans (hb4.mono HBN.out.size))
        have RP4 := Lib.hid (RP.out.below hb4 RP.out.lt)
        have RR4 := Lib.hid (RR3.out.below hb4 RR3.out.lt)
        have p0 := RP4.out.cell (i := 0) (by rfl)
        have p1 := RP4.out.cell (i := 1) (by rfl)
        have r0 := RR4.out.cell (i := 0) (by rfl)
        have r1 := RR4.out.cell (i := 1) (by rfl)
        have f0 : ∀ k, w4.frozen? ⟨w.heap.size + 1, k, none⟩ = false := fun k => RR4.out.frozen k
        clear hb4 g3
        unfold itV
        by_cases he : q.2.2.scope = n
        · have hqe : (q.2.2.scope == n) = true := by simpa using he
          have HM : Hid (modR ss n (q.1 : Int) (q.2.1 : Int) true) := Lib.hid (.inr ⟨q, by rw [moduleP_decls]; exact find_atG HQ.out hqe hno.out, rfl, rfl, rfl⟩)
          clear he
          go_wp2
          refine bodyPost_ret (v := .tuple #[.agg #[.int .i64 (q.1 : Int), .int .i64 (q.2.1 : Int)], .bool true]) (by simp [results, Tryd.results55, go_sem, r0, r1]) rfl ⟨_, _, true, rfl, .inr ⟨HH.out, HM.out⟩, ?_⟩
          exact (HB4.out.setCell (by simp) _).setCell (by simp) _
        · have hqe : (q.2.2.scope == n) = false := by simpa using he
          have HN : Hid (∀ q, q ∈ (declsP ss).take (k + 1) → (q.2.2.scope == n) = false) := Lib.hid (by
            intro q' hq'
            rw [List.take_add_one, HQ.out] at hq'
            simp only [Option.toList_some, List.mem_append, List.mem_singleton] at hq'
            rcases hq' with hq' | rfl
            · exact hno.out q' hq'
            · exact hqe)
          clear he
          go_wp2
          go_roundw
          case rel => exact ⟨k + 1, by go_num, by omega, HN, HBN4.out⟩
          case measure => simp only [intOf]; omega
      · obtain rfl : k = (plsP ss 1).length := by omega
        have HM : Hid (modR ss n 0 0 false) := Lib.hid (.inl ⟨by
          rw [moduleP_decls, List.find?_eq_none]
          intro q hq
          have := hno.out q (by rw [declsP_pls, List.length_map, List.take_length]; exact hq)
          simp [this], rfl, rfl, rfl⟩)
        have HB3 := Lib.hid (HB2.out.trans (hb.mono HB2.out.size))
        have RR3 := Lib.hid (RR2.out.below hb RR2.out.lt)
        have r0 := RR3.out.cell (i := 0) (by rfl)
        have r1 := RR3.out.cell (i := 1) (by rfl)
        have f0 : ∀ k, wr.frozen? ⟨w.heap.size + 1, k, none⟩ = false := fun k => RR3.out.frozen k
        clear hb
        go_wp2
        refine bodyPost_ret (v := .tuple #[.agg #[.int .i64 0, .int .i64 0], .bool false]) (by simp [results, Tryd.results55, go_sem, r0, r1]) rfl ⟨0, 0, false, rfl, .inr ⟨HH.out, HM.out⟩, ?_⟩
        exact (HB3.out.setCell (by simp) _).setCell (by simp) _
set_option maxRecDepth 100000 in
set_option maxHeartbeats 1600000 in
theorem implModule_any (ss : List Sc) (hF : Fair ss) (oa : Option Addr) (cap : Nat) (n : Int) (w : World) (hc : HoldsScopes w oa ss) (hE : NodeErrs w) :
    Calls Tryd.prog 54 #[.agg #[.slice oa ss.length cap], .int .i64 n] w (ModuleGot ss n w) := by
  have hb0 := ((Below.refl w.heap.size w).alloc (Nat.le_refl _) (.cells #[.slice oa ss.length cap] 30)).alloc (by simp) (.cells #[.int .i64 0, .int .i64 0] 34)
  have C := Lib.hid (nodeOf_any ss hF oa cap n _ (hc.below hb0 (Nat.le_refl _)) (hE.at hb0))
  have hRR := Row.new (w.alloc (.cells #[.slice oa ss.length cap] 30)) [.int .i64 0, .int .i64 0] 34
  rw [World.size_alloc] at hRR
  have RR := Lib.hid hRR
  have HB0 := Lib.hid hb0
  clear hF hc hE hb0 hRR
  go_enter Tryd.func54, Tryd.ntmps54
  go_wp2_with fail
  refine C.out.mono ?_
  rintro e w1 (⟨hv, ⟨tp, p, rfl⟩, hb⟩ | ⟨hv, s, d, T, M1, M2, v, ds, rfl, hs, hd, rfl, hb, hT⟩)
  · have HN := Lib.hid hv
    have HB := Lib.hid (HB0.out.trans (hb.mono HB0.out.size))
    have RR1 := Lib.hid (RR.out.below hb RR.out.lt)
    have r0 := RR1.out.cell (i := 0) (by rfl)
    have r1 := RR1.out.cell (i := 1) (by rfl)
    have f0 : ∀ k, w1.frozen? ⟨w.heap.size + 1, k, none⟩ = false := fun k => RR1.out.frozen k
    clear hv hb
    go_wp2
    refine bodyPost_ret (v := .tuple #[.agg #[.int .i64 0, .int .i64 0], .bool false]) (by simp [results, Tryd.results54, go_sem, r0, r1]) rfl ⟨0, 0, false, rfl, .inl ⟨HN.out, rfl, rfl, rfl⟩, ?_⟩
    exact (HB.out.setCell (by simp) _).setCell (by simp) _
  · have HH : Hid (HasScope ss (s : Int)) := Lib.hid ⟨hv, by omega, by omega⟩
    have HB := Lib.hid (HB0.out.trans (hb.mono HB0.out.size))
    have RR1 := Lib.hid (RR.out.below hb RR.out.lt)
    obtain ⟨a, b, ok, hR⟩ := modR_total ss (s : Int)
    have hrun := look_mod hv hT (by omega) (wf_small (by have := hv.count; omega)) hR (Below.refl _ _)
    have t2 := hT.tree.box.cell (i := 2) (by rfl)
    have r0 := RR1.out.cell (i := 0) (by rfl)
    have r1 := RR1.out.cell (i := 1) (by rfl)
    have f0 : ∀ k, w1.frozen? ⟨w.heap.size + 1, k, none⟩ = false := fun k => RR1.out.frozen k
    have hlt := RR1.out.lt
    have HR := Lib.hid hR
    clear hv hb hT hd hs hR
    go_wp2
    have q1 := ((RR1.out.set 0 (.int .i64 a)).set 1 (.int .i64 b)).alloc (.cells #[.int .i64 a, .int .i64 b] 34)
    have q10 := q1.cell (i := 0) (by rfl)
    have q11 := q1.cell (i := 1) (by rfl)
    refine bodyPost_ret (v := .tuple #[.agg #[.int .i64 a, .int .i64 b], .bool ok]) (by simp [results, Tryd.results54, go_sem, q10, q11]) rfl ⟨a, b, ok, rfl, .inr ⟨HH.out, HR.out⟩, ?_⟩
    exact ((HB.out.setCell (by simp) _).setCell (by simp) _).alloc (by simp; exact HB.out.size) _
end Go.Proofs.YtppgdigcopkeiaaDoor
