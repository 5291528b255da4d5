/-
  The contract of the iterator over a tree's items (impl's (*tree).all): all items with their places in order, whatever the loop's body does, as long as it leaves the cells that were there.
-/
import Derived.Test.YtgehpaojbnpbcaaGreatDoorPlacedZ
import Derived.RangeFuncBound
import Derived.RangeFuncCalls
import Derived.RangeFuncLeaves
import Derived.Shelf.Abstract
import Derived.Shelf.RegionOpen
import Derived.Stop.RegionWithIn
import Derived.OwnWalkIn
import Derived.TacticsInMore
import Derived.LoopNIn
import Derived.LoopIn
namespace Go.Proofs.YtgehpaojbnpbcaaGreatDoor
open Go Go.RowKit Go.Maps
attribute [local go_sem] Oper.semAt_some
/-- An item of a graph with its place. -/
abbrev El (ss : List Sc) := { q : Nat × Nat × It // q ∈ placed 0 ss }
def elArgs (q : Nat × Nat × It) : Array Value := #[.agg #[.int .i64 (q.1 : Int), .int .i64 (q.2.1 : Int)], .agg #[.int .i64 q.2.2.kind, .string q.2.2.name, .int .i64 q.2.2.scope]]
/-- The nodes are the graph's scopes with their items. -/
structure NodesHold (w : World) (ds : List Nd) (ss : List Sc) : Prop where
  len : ds.length = ss.length
  items : ∀ (i : Nat) (d : Nd) (s : Sc), ds[i]? = some d → ss[i]? = some s → ∃ (oi : Option Addr) (ci : Nat), d.items = .slice oi s.items.length ci ∧ HoldsItems w oi s.items
theorem grown_item (w : World) (o : Obj) : w.grownBy (w.alloc o).drew none := ⟨rfl, rfl, rfl, by show w.heap.size ≤ (w.alloc o).heap.size; simp, fun k hk _ => Below.heap_alloc w o k hk⟩
set_option maxRecDepth 100000 in
set_option maxHeartbeats 4000000 in
theorem all1_in (n : Nat) (hn : 1 ≤ n) (l Bn B T M1 M2 : Nat) (v : Value) (ds : List Nd) (ss : List Sc) (w0 : World) (hT : Tree w0 B T M1 M2 v ds) (hN : NodesHold w0 ds ss) (hne : ds ≠ []) (hl : ss.length < 1000) (hl2 : ∀ s ∈ ss, s.items.length < 1000)
    (J Jx : List (El ss) → World → Prop) (W : World) (hJ : AbidesFrom W.heap.size J)
    (hY : ∀ pre x W1, J pre W1 → CellsKept w0.heap.size w0 W1 → pre.length < (placed 0 ss).length → YieldAt Fence.wide (n - 1) Tryz.prog l (elArgs x.1) W1 fun e W' =>
      (e = .returned (.bool true) ∧ J (pre ++ [x]) W' ∧ CellsKept w0.heap.size W1 W') ∨ (e = .returned (.bool false) ∧ Jx (pre ++ [x]) W'))
    (hk : CellsKept w0.heap.size w0 W) (hBn : W.cell? ⟨Bn, 0, none⟩ = some (.pointer (some ⟨T, 0, none⟩))) (h0 : J [] W) :
    CallsIn Fence.wide n Tryz.prog 115 #[.func (.yield l) #[] #[], .pointer (some ⟨Bn, 0, none⟩)] W fun e W' => (∃ v, e = .returned v) ∧
      ((∃ ys : List (El ss), ys.map Subtype.val = placed 0 ss ∧ J ys W') ∨ (∃ pre : List (El ss), pre.map Subtype.val <+: placed 0 ss ∧ Jx pre W')) := by
  obtain ⟨g, cap, rfl, hB, hg, hs⟩ := hT.slot hne
  have HT := Lib.hid hT
  have HN := Lib.hid hN
  have HS := Lib.hid hs
  have t0 := (hT.kept hk (Nat.le_refl _)).box.cell (i := 0) (by rfl)
  have hdl : ds.length < 1000 := by rw [hN.len]; exact hl
  clear hT hN hs hne
  refine callsIn_of_wp Tryz.func115 rfl trivial ?_ rfl
  simp only [Tryz.ntmps115, List.size_toArray, List.length_cons, List.length_nil, Nat.reduceAdd, Nat.reduceSub, Array.replicate_succ, Array.replicate_zero, List.push_toArray, List.append_toArray, List.nil_append, List.cons_append]
  gi_wp2
  gi_loopw [12] (fun i wr => ∃ (k : Nat) (pre : List (El ss)), i = .int .i64 k ∧ k ≤ ds.length ∧ Hid (pre.map Subtype.val = uptoP ss k 0) ∧ J pre wr ∧ CellsKept w0.heap.size w0 wr ∧ W.heap.size ≤ wr.heap.size) (fun i _ => ds.length - (intOf i).toNat)
  case atStart => exact ⟨0, [], rfl, Nat.zero_le _, Lib.hid (by rw [uptoP_start]; rfl), h0, hk, Nat.le_refl _⟩
  case round =>
    obtain ⟨k, pre, rfl, hkl, hpre, hJs, hkr, hWr⟩ := hrel
    by_cases hlt : k < ds.length
    · obtain ⟨d, hd⟩ : ∃ d, ds[k]? = some d := ⟨_, List.getElem?_eq_getElem hlt⟩
      obtain ⟨s, hsc⟩ : ∃ s, ss[k]? = some s := ⟨_, List.getElem?_eq_getElem (by have := HN.out.len; omega)⟩
      obtain ⟨oi, ci, hdi, hhi⟩ := HN.out.items k d s hd hsc
      have hil := hl2 s (List.mem_of_getElem? hsc)
      have c1 := hkr.cell hg (HS.out k d hd)
      unfold Nd.ptr at c1
      have c2 : wr.cell? ⟨d.blk, 2, none⟩ = some (.slice oi s.items.length ci) := by
        have := ((HT.out.kept hkr (Nat.le_refl _)).node k d hd).2.cell (i := 2) (v := d.items) (by rfl)
        rw [this, hdi]
      have HD := Lib.hid hd
      have HSC := Lib.hid hsc
      have HH := Lib.hid hhi
      have hpl : Hid (∀ (j : Nat) x (pre' : List (El ss)), s.items[j]? = some x → pre'.map Subtype.val = uptoP ss k j → pre'.length < (placed 0 ss).length) := Lib.hid (by
        intro j x pre' hx hp
        have h1 := (uptoP_prefix (j := j + 1) hsc).length_le
        rw [uptoP_next hsc hx, ← hp] at h1
        simp at h1
        omega)
      clear hd hsc hdi hhi
      gi_wp2
      gi_loopw [21] (fun i wr' => ∃ (j : Nat) (pre : List (El ss)), i = .int .i64 j ∧ j ≤ s.items.length ∧ Hid (pre.map Subtype.val = uptoP ss k j) ∧ J pre wr' ∧ CellsKept w0.heap.size w0 wr' ∧ W.heap.size ≤ wr'.heap.size) (fun i _ => s.items.length - (intOf i).toNat)
      case atStart => exact ⟨0, pre, rfl, Nat.zero_le _, hpre, hJs, hkr, hWr⟩
      case round =>
        obtain ⟨j, pre2, rfl, hjl, hpre2, hJ2, hk2, hW2⟩ := hrel
        by_cases hlt2 : j < s.items.length
        · obtain ⟨x, hx⟩ : ∃ x, s.items[j]? = some x := ⟨_, List.getElem?_eq_getElem hlt2⟩
          obtain ⟨b, off, rfl, hb, q1⟩ := (HH.out).at (by omega)
          obtain ⟨a0, a1, a2⟩ := q1 j x hx
          have r0 := hk2.cell hb a0
          have r1 := hk2.cell hb a1
          have r2 := hk2.cell hb a2
          clear a0 a1 a2 q1
          have HX := Lib.hid hx
          obtain ⟨el, hel⟩ : ∃ el : El ss, el.1 = (k, j, x) := ⟨⟨(k, j, x), mem_placed.2 ⟨s, Nat.zero_le _, by simpa using HSC.out, hx⟩⟩, rfl⟩
          have hJ1 := hJ pre2 wr _ none hJ2 (grown_item wr (.cells #[.int .i64 x.kind, .string x.name, .int .i64 x.scope] 137)) (fun _ e => by cases e)
          have hk1 : CellsKept w0.heap.size w0 (wr.alloc (.cells #[.int .i64 x.kind, .string x.name, .int .i64 x.scope] 137)).drew := hk2.trans (CellsKept.of_below ((((Below.refl w0.heap.size wr).alloc hk2.size _)).drew))
          obtain ⟨fn, tmps, assign, body, hy, hR⟩ := hY pre2 el _ hJ1 hk1 (hpl.out j x pre2 hx hpre2.out)
          rw [hel] at hy
          dsimp only [elArgs] at hy
          have cn := ((HT.out.kept hk1 (Nat.le_refl _)).node k d HD.out).2.cell (i := 0) (v := .int .i64 (k : Int)) (by rfl)
          have HR := Lib.hid (hR.mono (R' := fun e W' => ∃ q, e = .returned (.bool q) ∧ Hid ((q = true ∧ J (pre2 ++ [el]) W' ∧ CellsKept w0.heap.size (wr.alloc (.cells #[.int .i64 x.kind, .string x.name, .int .i64 x.scope] 137)).drew W') ∨ (q = false ∧ Jx (pre2 ++ [el]) W'))) (by
            rintro e W' (⟨he, h1, h2⟩ | ⟨he, h1⟩)
            · exact ⟨true, he, Lib.hid (.inl ⟨rfl, h1, h2⟩)⟩
            · exact ⟨false, he, Lib.hid (.inr ⟨rfl, h1⟩)⟩))
          have HK1 := Lib.hid hk1
          have HE := Lib.hid hel
          clear hx hJ1 hk1 hR hel
          gi_wp2
          gi_region_with (refine HR.out.mono ?_; rintro e W3 ⟨q, rfl, hq⟩)
          all_goals (rcases hq.out with ⟨rfl, hJ3, hk3⟩ | ⟨rfl, hx3⟩)
          all_goals have HP := Lib.hid (show (pre2 ++ [el]).map Subtype.val = uptoP ss k (j + 1) from by rw [List.map_append, hpre2.out, uptoP_next HSC.out HX.out]; simp [HE.out])
          all_goals gi_wp2
          all_goals first
            | (refine bodyPost_ret (results_none rfl _ _ _) rfl ?_
               exact ⟨⟨_, rfl⟩, .inr ⟨_, (by rw [HP.out]; exact uptoP_prefix HSC.out), hx3⟩⟩)
            | exact ⟨⟨j + 1, pre2 ++ [el], by go_num, by omega, HP, hJ3, HK1.out.trans hk3, Nat.le_trans hW2 (Nat.le_trans (by simp) hk3.size)⟩, by simp only [intOf]; omega⟩
        · obtain rfl : j = s.items.length := by omega
          have HP := Lib.hid (show pre2.map Subtype.val = uptoP ss (k + 1) 0 from by rw [hpre2.out, uptoP_scope HSC.out])
          gi_wp2
          go_roundw
          case rel => exact ⟨k + 1, pre2, by go_num, by omega, HP, hJ2, hk2, hW2⟩
          case measure => simp only [intOf]; omega
    · obtain rfl : k = ds.length := by omega
      have HP := Lib.hid (show pre.map Subtype.val = placed 0 ss from by rw [hpre.out, HN.out.len, uptoP_all])
      gi_wp2
      go_end0
      exact ⟨⟨_, rfl⟩, .inl ⟨pre, HP.out, hJs⟩⟩
theorem all_any (T : Nat) (w : World) :
    Calls Tryz.prog 93 #[.pointer (some ⟨T, 0, none⟩)] w fun e w' => e = .returned (.func (.func 115) #[] #[.pointer (some ⟨w.heap.size, 0, none⟩)]) ∧ w' = w.alloc (.cells #[.pointer (some ⟨T, 0, none⟩)] 124) := by
  go_enter Tryz.func93, Tryz.ntmps93
  go_wp2
  go_ret
  exact ⟨rfl, rfl⟩
/-- What the iterator owes a loop over it. -/
theorem all_stops (n : Nat) (hn : 1 ≤ n) (Bn B T M1 M2 : Nat) (v : Value) (ds : List Nd) (ss : List Sc) (w0 w : World) (hT : Tree w0 B T M1 M2 v ds) (hN : NodesHold w0 ds ss) (hne : ds ≠ []) (hl : ss.length < 1000) (hl2 : ∀ s ∈ ss, s.items.length < 1000)
    (hk : CellsKept w0.heap.size w0 w) (hBn : w.cell? ⟨Bn, 0, none⟩ = some (.pointer (some ⟨T, 0, none⟩))) :
    SeqStopsK Fence.wide n Tryz.prog 115 #[.pointer (some ⟨Bn, 0, none⟩)] (fun x : El ss => elArgs x.1) (CellsKept w0.heap.size) (fun ys => ys.map Subtype.val = placed 0 ss) (fun pre => pre.map Subtype.val <+: placed 0 ss) (placed 0 ss).length w :=
  fun l J Jx W hW hJ _ hY h0 =>
    all1_in n hn l Bn B T M1 M2 v ds ss w0 hT hN hne hl hl2 J Jx W hJ (fun pre x W1 h _ hlen => hY pre x W1 h hlen) (hk.trans ((CellsKept.of_below hW).mono hk.size)) ((hW.cell (p := ⟨Bn, 0, none⟩) (World.block_lt_of_cell? _ _ hBn)).trans hBn) h0
theorem cellsKept_b {n : Nat} {w : World} (W : World) (l : Nat) (o o' : Obj) (_ : w.heap.size ≤ l) (h : W.heap[l]? = some o) (ho : o.isCells = false) (_ : o.isWalk = false) : CellsKept n W (W.putObj l o') := CellsKept.putObj W l o o' h ho
end Go.Proofs.YtgehpaojbnpbcaaGreatDoor
