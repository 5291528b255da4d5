/-
  The walk of impl's (*lookup).find, where the targets of the items of the scopes on the way are told.
-/
import Derived.Test.YtppgdigcopkeiaaDoorWImported
import Derived.Test.YtppgdigcopkeiaaDoorWNode
import Derived.Test.YtppgdigcopkeiaaDoorWImplChain
import Derived.WalkMore
namespace Go.Proofs.YtppgdigcopkeiaaDoor
open Go Go.RowKit Go.Maps
attribute [local go_sem] Oper.semAt_some
/-- A node with its number, which is one of these. -/
abbrev NdIn (ds : List Nd) (cl : List Nat) := { q : Nat × Nd // ds[q.1]? = some q.2 ∧ q.1 ∈ cl }
def NdIn.num {ds : List Nd} {cl : List Nat} (x : NdIn ds cl) : Nat := x.1.1
set_option maxRecDepth 100000 in
set_option maxHeartbeats 4000000 in
theorem outward1_inC (n : Nat) (hn : 1 ≤ n) (l Bn B T M1 M2 : Nat) (v : Value) (ds : List Nd) (ss : List Sc) (w0 : World) (hT : Tree w0 B T M1 M2 v ds) (hP : Pars ds ss) (hC : Climbs ss) (hl : ds.length = ss.length) (s : Nat) (d : Nd) (hd : ds[s]? = some d)
    (J Jx : List (NdIn ds (chainP ss s)) → World → Prop) (W : World)
    (hY : ∀ pre x W1, J pre W1 → CellsKept w0.heap.size w0 W1 → pre.length < (chainP ss s).length → YieldAt Fence.wide (n - 1) Tryd.prog l (ndArgs x.1.2) W1 fun e W' =>
      (e = .returned (.bool true) ∧ J (pre ++ [x]) W' ∧ CellsKept w0.heap.size W1 W') ∨ (e = .returned (.bool false) ∧ Jx (pre ++ [x]) W'))
    (hk : CellsKept w0.heap.size w0 W) (hBn : W.cell? ⟨Bn, 0, none⟩ = some (.pointer (some ⟨d.blk, 0, none⟩))) (h0 : J [] W) :
    CallsIn Fence.wide n Tryd.prog 152 #[.func (.yield l) #[] #[], .pointer (some ⟨Bn, 0, none⟩)] W fun e W' => (∃ v, e = .returned v) ∧
      ((∃ ys : List (NdIn ds (chainP ss s)), ys.map NdIn.num = chainP ss s ∧ J ys W') ∨ (∃ pre : List (NdIn ds (chainP ss s)), pre.map NdIn.num <+: chainP ss s ∧ Jx pre W')) := by
  have HT := Lib.hid hT
  have HP := Lib.hid hP
  have HC := Lib.hid hC
  have HL := Lib.hid hl
  have HD := Lib.hid hd
  clear hT hP hC hl hd
  refine callsIn_of_wp Tryd.func152 rfl trivial ?_ rfl
  simp only [Tryd.ntmps152, List.size_toArray, List.length_cons, List.length_nil, Nat.reduceAdd, Nat.reduceSub, Array.replicate_succ, Array.replicate_zero, List.push_toArray, List.append_toArray, List.nil_append, List.cons_append]
  gi_wp2
  gi_loopw [3] (fun p wr => ∃ (pre : List (NdIn ds (chainP ss s))), J pre wr ∧ CellsKept w0.heap.size w0 wr ∧
      ((p = .pointer none ∧ Hid (pre.map NdIn.num = chainP ss s)) ∨ ∃ (i : Nat) (c : Nd), p = .pointer (some ⟨c.blk, 0, none⟩) ∧ Hid (ds[i]? = some c) ∧ Hid (pre.map NdIn.num ++ chainP ss i = chainP ss s))) (fun p _ => rank ds p)
  case atStart => exact ⟨[], h0, hk, .inr ⟨s, d, rfl, HD, Lib.hid rfl⟩⟩
  case round =>
    obtain ⟨pre, hJ, hkr, ⟨rfl, hpre⟩ | ⟨i, c, rfl, hc, hpre⟩⟩ := hrel
    · gi_wp2
      go_end0
      exact ⟨⟨_, rfl⟩, .inl ⟨pre, hpre.out, hJ⟩⟩
    · have hlen : pre.length < (chainP ss s).length := by
        have := congrArg List.length hpre.out
        obtain ⟨t, ht⟩ := chain_head ss i
        rw [ht] at this
        simp at this
        omega
      have HMEM : i ∈ chainP ss s := by
        obtain ⟨t, ht⟩ := chain_head ss i
        rw [← hpre.out, ht]
        simp
      have HCM := Lib.hid (And.intro hc.out HMEM)
      clear HMEM
      obtain ⟨fn, tmps, assign, body, hy, hR⟩ := hY pre ⟨(i, c), HCM.out⟩ wr hJ hkr hlen
      dsimp only [ndArgs] at hy
      have HR := Lib.hid (hR.mono (R' := fun e W' => ∃ q, e = .returned (.bool q) ∧ Hid ((q = true ∧ J (pre ++ [⟨(i, c), HCM.out⟩]) W' ∧ CellsKept w0.heap.size wr W') ∨ (q = false ∧ Jx (pre ++ [⟨(i, c), HCM.out⟩]) W'))) (by
        rintro e W' (⟨he, h1, h2⟩ | ⟨he, h1⟩)
        · exact ⟨true, he, Lib.hid (.inl ⟨rfl, h1, h2⟩)⟩
        · exact ⟨false, he, Lib.hid (.inr ⟨rfl, h1⟩)⟩))
      have HKR := Lib.hid hkr
      have HRK := Lib.hid (rank_of HT.out.inj hc.out)
      clear hR hlen hkr
      gi_wp2
      refine HR.out.mono ?_
      rintro e W3 ⟨q, rfl, hq⟩
      rcases hq.out with ⟨rfl, hJ3, hk3⟩ | ⟨rfl, hx3⟩
      · have HK3 := Lib.hid (HKR.out.trans hk3)
        have hpc := (((HT.out.kept HK3.out (Nat.le_refl _)).node i c hc.out).2.cell (i := 1) (v := .pointer c.par) (by rfl))
        rcases par_ptr HP.out HC.out HL.out hc.out with ⟨h1, h2⟩ | ⟨p, e', h1, hlt, h2, h3⟩
        · have HE : Hid ((pre ++ [(⟨(i, c), HCM.out⟩ : NdIn ds (chainP ss s))]).map NdIn.num = chainP ss s) := Lib.hid (by refine Eq.trans ?_ hpre.out; rw [chain_none h1, List.map_append]; rfl)
          rw [h2] at hpc
          clear hk3 h1 h2
          gi_wp2
          exact ⟨⟨_, hJ3, HK3.out, .inl ⟨rfl, HE⟩⟩, by rw [HRK.out]; simp [rank]⟩
        · have HE : Hid ((pre ++ [(⟨(i, c), HCM.out⟩ : NdIn ds (chainP ss s))]).map NdIn.num ++ chainP ss p = chainP ss s) := Lib.hid (by refine Eq.trans ?_ hpre.out; rw [chain_some HC.out h1, List.map_append, List.append_assoc]; rfl)
          have HP2 := Lib.hid h2
          have HR2 := Lib.hid (rank_of HT.out.inj h2)
          rw [h3] at hpc
          clear hk3 h1 h2 h3
          gi_wp2
          exact ⟨⟨_, hJ3, HK3.out, .inr ⟨p, e', rfl, HP2, HE⟩⟩, by rw [HRK.out, HR2.out]; omega⟩
      · have HE : Hid ((pre ++ [(⟨(i, c), HCM.out⟩ : NdIn ds (chainP ss s))]).map NdIn.num <+: chainP ss s) := Lib.hid (by
          obtain ⟨t, ht⟩ := chain_head ss i
          exact ⟨t, Eq.trans (by rw [ht, List.map_append]; simp [NdIn.num]) hpre.out⟩)
        gi_wp2
        refine bodyPost_ret (results_none rfl _ _ _) rfl ?_
        exact ⟨⟨_, rfl⟩, .inr ⟨_, HE.out, hx3⟩⟩
theorem outward_stopsC (n : Nat) (hn : 1 ≤ n) (Bn B T M1 M2 : Nat) (v : Value) (ds : List Nd) (ss : List Sc) (w0 w : World) (hT : Tree w0 B T M1 M2 v ds) (hP : Pars ds ss) (hC : Climbs ss) (hl : ds.length = ss.length) (s : Nat) (d : Nd) (hd : ds[s]? = some d)
    (hk : CellsKept w0.heap.size w0 w) (hBn : w.cell? ⟨Bn, 0, none⟩ = some (.pointer (some ⟨d.blk, 0, none⟩))) :
    SeqStopsK Fence.wide n Tryd.prog 152 #[.pointer (some ⟨Bn, 0, none⟩)] (fun x : NdIn ds (chainP ss s) => ndArgs x.1.2) (CellsKept w0.heap.size) (fun ys => ys.map NdIn.num = chainP ss s) (fun pre => pre.map NdIn.num <+: chainP ss s) (chainP ss s).length w :=
  fun l J Jx W hW _ _ hY h0 =>
    outward1_inC n hn l Bn B T M1 M2 v ds ss w0 hT hP hC hl s d hd J Jx W (fun pre x W1 h _ hlen => hY pre x W1 h hlen) (hk.trans ((CellsKept.of_below hW).mono hk.size)) ((hW.cell (p := ⟨Bn, 0, none⟩) (World.block_lt_of_cell? _ _ hBn)).trans hBn) h0
set_option maxRecDepth 100000 in
/-- From no node: no round. -/
theorem outward_none (n : Nat) (Bn : Nat) (ds : List Nd) (w0 w : World) (hBn : w.cell? ⟨Bn, 0, none⟩ = some (.pointer none)) :
    SeqStopsK Fence.wide n Tryd.prog 152 #[.pointer (some ⟨Bn, 0, none⟩)] (fun x : NdIn ds [] => ndArgs x.1.2) (CellsKept w0.heap.size) (fun ys => ys.map NdIn.num = []) (fun pre => pre.map NdIn.num <+: []) 0 w := by
  intro l J Jx W hW _ _ hY h0
  have hB := (hW.cell (p := ⟨Bn, 0, none⟩) (World.block_lt_of_cell? _ _ hBn)).trans hBn
  have H0 := Lib.hid h0
  clear h0 hY
  refine callsIn_of_wp Tryd.func152 rfl trivial ?_ rfl
  simp only [Tryd.ntmps152, List.size_toArray, List.length_cons, List.length_nil, Nat.reduceAdd, Nat.reduceSub, Array.replicate_succ, Array.replicate_zero, List.push_toArray, List.append_toArray, List.nil_append, List.cons_append]
  gi_wp2
  gi_loopw [3] (fun p wr => p = .pointer none ∧ wr = W) (fun p _ => 0)
  case atStart => exact ⟨rfl, rfl⟩
  case round =>
    obtain ⟨rfl, rfl⟩ := hrel
    gi_wp2
    go_end0
    exact ⟨⟨_, rfl⟩, .inl ⟨[], rfl, H0.out⟩⟩
theorem build_find (w : World) : (Instr.build 114 #[(0, .int .i64 (-1))]).run Tryd.prog w = .ok (.agg #[.int .i64 (-1), .int .i64 0, .slice none 0 0]) w := by kernel_rfl
theorem index_way0 (w : World) : (Instr.index 178 (.agg #[.int .i64 1, .int .i64 2]) (.int .i64 ((0 : Nat) : Int))).run Tryd.prog w = .ok (.int .i64 1) w := by kernel_rfl
theorem index_way1 (w : World) : (Instr.index 178 (.agg #[.int .i64 1, .int .i64 2]) (.int .i64 ((1 : Nat) : Int))).run Tryd.prog w = .ok (.int .i64 2) w := by kernel_rfl
theorem index_way0' (w : World) : (Instr.index 178 (.agg #[.int .i64 1, .int .i64 2]) (.int .i64 0)).run Tryd.prog w = .ok (.int .i64 1) w := by kernel_rfl
theorem index_way1' (w : World) : (Instr.index 178 (.agg #[.int .i64 1, .int .i64 2]) (.int .i64 1)).run Tryd.prog w = .ok (.int .i64 2) w := by kernel_rfl
attribute [local go_sem ↓] build_find index_way0 index_way1 index_way0' index_way1'
/-- What find answers. -/
def FindGot (f : Found) (w : World) (B L M T M1 M2 : Nat) (v : Value) (ds : List Nd) (ss : List Sc) (e : Ending) (w' : World) : Prop :=
  ∃ u, e = .returned (.agg #[.int .i64 f.scope, .int .i64 f.way, u]) ∧ w'.ownsRow w.heap.size 34 2 u f.places.length (placeCells f.places) ∧ Left w w' B L M T M1 M2 v ds ss
theorem left_own {w : World} {B L M T M1 M2 n : Nat} {v : Value} {ds : List Nd} {ss : List Sc} {α : Type} (hL : LookW w B L M T M1 M2 v ds ss) (hn : w.heap.size ≤ n) : OwnFrom n (fun (_ : α) W => Left w W B L M T M1 M2 v ds ss) :=
  fun _ _ _ _ hs hg hr => Left.far hL hs ((Below.refl w.heap.size _).grown hg hs.turns.size (fun r e => Nat.le_trans hn (hr r e).1))
/-- Nothing found at the scopes that were passed. -/
def Passed (ss : List Sc) (nm : ByteArray) (l : List Nat) : Prop := ∀ m ∈ l, (ownP ss m nm).length = 0 ∧ (fromP ss (impP ss m) nm).length = 0
theorem passed_all {ss : List Sc} {nm : ByteArray} : ∀ {l : List Nat}, Passed ss nm l → lookF ss (impP ss) nm l = ⟨-1, 0, []⟩
  | [], _ => rfl
  | m :: r, h => by
    have h1 := h m List.mem_cons_self
    rw [lookF_cons_next (by omega) (by omega)]
    exact passed_all fun x hx => h x (List.mem_cons_of_mem _ hx)
theorem passed_skip {ss : List Sc} {nm : ByteArray} : ∀ {l r : List Nat}, Passed ss nm l → lookF ss (impP ss) nm (l ++ r) = lookF ss (impP ss) nm r
  | [], _, _ => rfl
  | m :: l, r, h => by
    have h1 := h m List.mem_cons_self
    rw [List.cons_append, lookF_cons_next (by omega) (by omega)]
    exact passed_skip fun x hx => h x (List.mem_cons_of_mem _ hx)
/-- The world in which the loop begins. -/
structure FindAt (w W0 : World) (L : Nat) (pa : Option Addr) (nm : ByteArray) : Prop where
  size : W0.heap.size = w.heap.size + 1 + 1 + 1 + 1 + 1
  below : Below w.heap.size w W0
  r3 : Row W0 w.heap.size 108 [.pointer (some ⟨L, 0, none⟩)]
  r5 : Row W0 (w.heap.size + 1) 9 [.string nm]
  r6 : Row W0 (w.heap.size + 1 + 1) 114 [.int .i64 0, .int .i64 0, .slice none 0 0]
  r7 : Row W0 (w.heap.size + 1 + 1 + 1) 114 [.int .i64 (-1), .int .i64 0, .slice none 0 0]
  rn : W0.cell? ⟨w.heap.size + 1 + 1 + 1 + 1, 0, none⟩ = some (.pointer pa)
theorem findAt (w : World) (L : Nat) (pa : Option Addr) (nm : ByteArray) : FindAt w (((((w.alloc (.cells #[.pointer (some ⟨L, 0, none⟩)] 108)).alloc (.cells #[.string nm] 9)).alloc (.cells #[.int .i64 0, .int .i64 0, .slice none 0 0] 114)).alloc (.cells #[.int .i64 (-1), .int .i64 0, .slice none 0 0] 114)).alloc (.cells #[.pointer pa] 109)) L pa nm where
  size := by simp
  below := (((((Below.refl _ _).alloc (Nat.le_refl _) _).alloc (by simp) _).alloc (by simp; omega) _).alloc (by simp; omega) _).alloc (by simp; omega) _
  r3 := ((((Row.new w [.pointer (some ⟨L, 0, none⟩)] 108).alloc _).alloc _).alloc _).alloc _
  r5 := by
    have h := (((Row.new (w.alloc (.cells #[.pointer (some ⟨L, 0, none⟩)] 108)) [.string nm] 9).alloc (.cells #[.int .i64 0, .int .i64 0, .slice none 0 0] 114)).alloc (.cells #[.int .i64 (-1), .int .i64 0, .slice none 0 0] 114)).alloc (.cells #[.pointer pa] 109)
    simp only [World.size_alloc] at h
    exact h
  r6 := by
    have h := ((Row.new ((w.alloc (.cells #[.pointer (some ⟨L, 0, none⟩)] 108)).alloc (.cells #[.string nm] 9)) [.int .i64 0, .int .i64 0, .slice none 0 0] 114).alloc (.cells #[.int .i64 (-1), .int .i64 0, .slice none 0 0] 114)).alloc (.cells #[.pointer pa] 109)
    simp only [World.size_alloc] at h
    exact h
  r7 := by
    have h := (Row.new (((w.alloc (.cells #[.pointer (some ⟨L, 0, none⟩)] 108)).alloc (.cells #[.string nm] 9)).alloc (.cells #[.int .i64 0, .int .i64 0, .slice none 0 0] 114)) [.int .i64 (-1), .int .i64 0, .slice none 0 0] 114).alloc (.cells #[.pointer pa] 109)
    simp only [World.size_alloc] at h
    exact h
  rn := by
    have h := (Boxed.new ((((w.alloc (.cells #[.pointer (some ⟨L, 0, none⟩)] 108)).alloc (.cells #[.string nm] 9)).alloc (.cells #[.int .i64 0, .int .i64 0, .slice none 0 0] 114)).alloc (.cells #[.int .i64 (-1), .int .i64 0, .slice none 0 0] 114)) 109 (.pointer pa)).cell
    simp only [World.size_alloc] at h
    exact h
/-- Where the loop was left. -/
structure FoundAt (w W : World) (B L M T M1 M2 : Nat) (v : Value) (ds : List Nd) (ss : List Sc) (f : Found) : Prop where
  left : Left w W B L M T M1 M2 v ds ss
  r6 : Row W (w.heap.size + 1 + 1) 114 [.int .i64 0, .int .i64 0, .slice none 0 0]
  r7 : ∃ u, Row W (w.heap.size + 1 + 1 + 1) 114 [.int .i64 f.scope, .int .i64 f.way, u] ∧ W.ownsRow w.heap.size 34 2 u f.places.length (placeCells f.places)
theorem foundAt_own {w : World} {B L M T M1 M2 n : Nat} {v : Value} {ds : List Nd} {ss : List Sc} (hL : LookW w B L M T M1 M2 v ds ss) (hn : w.heap.size ≤ n) : OwnFrom n (fun (f : Found) W => FoundAt w W B L M T M1 M2 v ds ss f) :=
  fun _ _ _ _ hs hg hr => ⟨left_own (α := Unit) hL hn () _ _ _ hs.left hg hr, hs.r6.kept_cells hg (fun r e => (hr r e).2), by
    obtain ⟨u, h1, h2⟩ := hs.r7
    refine ⟨u, h1.kept_cells hg (fun r e => (hr r e).2), h2.kept hg ?_⟩
    rcases h2.2 with ⟨rfl, _⟩ | ⟨g, cap, cur, rfl, _, hgb, _⟩
    · exact .inl rfl
    · refine .inr fun e => ?_
      obtain ⟨_, o, ho, hc⟩ := hr g (by simpa [Value.ownBlock] using e.symm)
      rw [hgb] at ho; cases ho; cases hc⟩
theorem grownBy_set (W : World) (b i : Nat) (v : Value) : W.grownBy (W.setCell ⟨b, i, none⟩ v) (some b) :=
  ⟨rfl, rfl, rfl, (KeepsWalks.setCell W _ v).size, fun k _ hk => Below.heap_setCell _ _ _ k (fun e => hk (by rw [e]))⟩
/-- The result stored, the call returned. -/
theorem find_end {w W : World} {B L M T M1 M2 D : Nat} {v u : Value} {ds : List Nd} {ss : List Sc} {f : Found} {x0 x1 x2 : Value} {t : Array Value} (hL : LookW w B L M T M1 M2 v ds ss) (hl : Left w W B L M T M1 M2 v ds ss)
    (r6 : Row W (w.heap.size + 1 + 1) 114 [x0, x1, x2]) (hown : W.ownsRow w.heap.size 34 2 u f.places.length (placeCells f.places)) (hD : w.heap.size + 5 ≤ D) (hK : W.heap[D]? = some (.deferred (some []))) (ht : t[6]? = some (.pointer (some ⟨w.heap.size + 1 + 1, 0, none⟩))) :
    Exit.noGoto (bodyPostM Fence.wide 6 Tryd.prog Tryd.f103 (FindGot f w B L M T M1 M2 v ds ss)) .ret { tmps := t, defers := [{ target := .collected D, args := #[] }] }
      (((W.setCell ⟨w.heap.size + 1 + 1, 0, none⟩ (.int .i64 f.scope)).setCell ⟨w.heap.size + 1 + 1, 1, none⟩ (.int .i64 f.way)).setCell ⟨w.heap.size + 1 + 1, 2, none⟩ u) := by
  have q6 := ((r6.set 0 (.int .i64 f.scope)).set 1 (.int .i64 f.way)).set 2 u
  have o6 := ((hown.kept (grownBy_set W _ 0 (.int .i64 f.scope)) (.inr (ownsRow_ne r6 (by decide) hown).symm)).kept (grownBy_set _ _ 1 (.int .i64 f.way)) (.inr (ownsRow_ne r6 (by decide) hown).symm)).kept (grownBy_set _ _ 2 u) (.inr (ownsRow_ne r6 (by decide) hown).symm)
  have hl6 := Left.far hL hl ((((Below.refl w.heap.size W).setCell (p := ⟨w.heap.size + 1 + 1, 0, none⟩) (by show w.heap.size ≤ w.heap.size + 1 + 1; omega) (.int .i64 f.scope)).setCell (p := ⟨w.heap.size + 1 + 1, 1, none⟩) (by show w.heap.size ≤ w.heap.size + 1 + 1; omega) (.int .i64 f.way)).setCell (p := ⟨w.heap.size + 1 + 1, 2, none⟩) (by show w.heap.size ≤ w.heap.size + 1 + 1; omega) u)
  have hK6 : (((W.setCell ⟨w.heap.size + 1 + 1, 0, none⟩ (.int .i64 f.scope)).setCell ⟨w.heap.size + 1 + 1, 1, none⟩ (.int .i64 f.way)).setCell ⟨w.heap.size + 1 + 1, 2, none⟩ u).heap[D]? = some (.deferred (some [])) := by
    rw [Below.heap_setCell _ _ _ _ (by show D ≠ w.heap.size + 1 + 1; omega), Below.heap_setCell _ _ _ _ (by show D ≠ w.heap.size + 1 + 1; omega), Below.heap_setCell _ _ _ _ (by show D ≠ w.heap.size + 1 + 1; omega)]
    exact hK
  generalize (((W.setCell ⟨w.heap.size + 1 + 1, 0, none⟩ (.int .i64 f.scope)).setCell ⟨w.heap.size + 1 + 1, 1, none⟩ (.int .i64 f.way)).setCell ⟨w.heap.size + 1 + 1, 2, none⟩ u) = W6 at q6 o6 hl6 hK6 ⊢
  refine ⟨by simp, .inl ⟨_, _, rfl, run_takeDeferred hK6, ?_⟩⟩
  have q7 : Row (W6.putObj D (.deferred none)) (w.heap.size + 1 + 1) 114 [.int .i64 f.scope, .int .i64 f.way, u] := q6.kept_cells (grownBy_putObj' W6 D _) (fun r e => by cases e; exact ⟨_, hK6, rfl⟩)
  have o7 := ownsRow_putObj o6 (.deferred none) hK6 rfl
  have hl7 := left_own (α := Unit) hL (Nat.le_refl _) () _ _ _ hl6 (grownBy_putObj' W6 D (.deferred none)) (fun r e => by cases e; exact ⟨by omega, _, hK6, rfl⟩)
  have c0 := q7.cell (i := 0) (v := .int .i64 f.scope) (by rfl)
  have c1 := q7.cell (i := 1) (v := .int .i64 f.way) (by rfl)
  have c2 := q7.cell (i := 2) (v := u) (by rfl)
  refine ⟨.agg #[.int .i64 f.scope, .int .i64 f.way, u], ?_, u, rfl, o7, hl7⟩
  clear hl o7 hl7 q6 o6 hl6 hL
  simp [results, Tryd.results103, go_sem, ht, c0, c1, c2]
set_option maxRecDepth 100000 in
set_option maxHeartbeats 8000000 in
theorem find_walk {ss : List Sc} (hv : Valid ss) {w : World} {B L M T M1 M2 : Nat} {v : Value} {ds : List Nd} (hL : LookW w B L M T M1 M2 v ds ss) (nm : ByteArray) (pa : Option Addr) (cl : List Nat) (hcl : cl.length ≤ 6)
    (hT : ∀ m ∈ cl, TargetC B L M T M1 M2 v ds ss m)
    (hseq : ∀ (Bn : Nat) (w0 w : World), TreeIs w0 B T M1 M2 v ds ss → CellsKept w0.heap.size w0 w → w.cell? ⟨Bn, 0, none⟩ = some (.pointer pa) →
      SeqStopsK Fence.wide 5 Tryd.prog 152 #[.pointer (some ⟨Bn, 0, none⟩)] (fun x : NdIn ds cl => ndArgs x.1.2) (CellsKept w0.heap.size) (fun ys => ys.map NdIn.num = cl) (fun pre => pre.map NdIn.num <+: cl) cl.length w) :
    Calls Tryd.prog 103 #[.pointer (some ⟨L, 0, none⟩), .pointer pa, .string nm] w (FindGot (lookF ss (impP ss) nm cl) w B L M T M1 M2 v ds ss) := by
  have HV := Lib.hid hv
  have HL := Lib.hid hL
  have HT := Lib.hid hT
  have HS := Lib.hid hseq
  have HCL := Lib.hid hcl
  have hM := hL.memo.lt
  clear hv hL hT hseq hcl
  refine (callsIn_wide (n := 6)).1 ?_
  refine callsIn_of_wp_marks Tryd.func103 rfl trivial ?_ rfl
  simp only [Tryd.ntmps103, List.size_toArray, List.length_cons, List.length_nil, Nat.reduceAdd, Nat.reduceSub, Array.replicate_succ, Array.replicate_zero, List.push_toArray, List.append_toArray, List.nil_append, List.cons_append]
  gi_wp2_with fail
  refine wpIn_wide.2 (wp_scope_straight ((wpIn_wide (n := 6)).1 ?_))
  gi_wp2_with fail
  refine wpIn_label ?_
  gi_wp2_with fail
  refine ⟨trivial, ?_⟩
  gi_at_call 115
  refine ((callsIn_wide (n := 5)).2 (outward_any _ _)).mono ?_
  rintro e w2 ⟨rfl, rfl⟩
  gi_wp2
  have hFA := findAt w L pa nm
  generalize hW0 : (((((w.alloc (.cells #[.pointer (some ⟨L, 0, none⟩)] 108)).alloc (.cells #[.string nm] 9)).alloc (.cells #[.int .i64 0, .int .i64 0, .slice none 0 0] 114)).alloc (.cells #[.int .i64 (-1), .int .i64 0, .slice none 0 0] 114)).alloc (.cells #[.pointer pa] 109)) = W0 at hFA ⊢
  clear hW0
  have HL0 := Lib.hid (HL.out.left.step hFA.below)
  have hz := hFA.size
  have HFA := Lib.hid hFA
  refine wpIn_rangeFunc_ownH rfl (by omega) (gf := 152) (lb := #[.pointer (some ⟨w.heap.size + 1 + 1 + 1 + 1, 0, none⟩)]) rfl trivial (enters_of Tryd.func152 (by kernel_rfl) rfl)
    (HS.out _ W0 W0 HL0.out.look.tree (CellsKept.refl _ _) HFA.out.rn) CellsKept.trans (fun W l o o' _ h1 h2 h3 => CellsKept.putObj W l o o' h1 h2) (Below.refl _ _) (fun _ => rfl)
    (fun pre W => Left w W B L M T M1 M2 v ds ss ∧ (CellsKept W0.heap.size W0 W ∧ Hid (Passed ss nm (pre.map NdIn.num))))
    (fun c pre W => c = .exit 0 ∧ ∃ f, Hid (∀ r, lookF ss (impP ss) nm (pre.map NdIn.num ++ r) = f) ∧ FoundAt w W B L M T M1 M2 v ds ss f)
    (OwnFrom.and (left_own HL.out (by omega)) (OwnFrom.and (cellsKept_own W0) (fun _ _ _ _ hs _ _ => hs)))
    (fun _ _ _ _ _ hs hg hr => ⟨hs.1, by obtain ⟨f, h1, h2⟩ := hs.2; exact ⟨f, h1, foundAt_own HL.out (by omega) f _ _ _ h2 hg hr⟩⟩)
    ⟨HL0.out, CellsKept.refl _ _, Lib.hid (fun m hm => by simp at hm)⟩
    (fun x a' _ => a' = { tmps := #[.pointer (some ⟨L, 0, none⟩), .pointer pa, .string nm, .pointer (some ⟨w.heap.size, 0, none⟩), undef, .pointer (some ⟨w.heap.size + 1, 0, none⟩), .pointer (some ⟨w.heap.size + 1 + 1, 0, none⟩), .pointer (some ⟨w.heap.size + 1 + 1 + 1, 0, none⟩), .pointer (some ⟨x.1.2.blk, 0, none⟩), undef, undef, undef,
      .agg #[.int .i64 (-1), .int .i64 0, .slice none 0 0], .pointer pa, .func (.func 152) #[] #[.pointer (some ⟨w.heap.size + 1 + 1 + 1 + 1, 0, none⟩)], .pointer (some ⟨x.1.2.blk, 0, none⟩), undef, undef, undef, undef, undef, undef, undef, undef, undef, undef, undef, undef, undef, undef, undef, undef, undef, undef, undef, undef, undef], defers := [] })
    (fun _ _ _ _ _ _ hs _ _ => hs)
    ?assign ?body ?done ?stop
  case assign =>
    rintro l pre x W K hi hK
    dsimp only [ndArgs]
    gi_wp2
    exact hK _ _ (KeepsFrom.refl _ _) (CellsKept.refl _ _) hi rfl
  case body =>
    rintro l pre x a' W hl _ ⟨hLW, hck, hps⟩ rfl hlen
    obtain ⟨⟨i, c⟩, hci, him⟩ := x
    dsimp only
    have HLW := Lib.hid hLW
    have HCK := Lib.hid hck
    have HPS := Lib.hid hps.out
    have HTC := Lib.hid (HT.out i him)
    have HCI := Lib.hid hci
    have HX : Hid ((pre ++ [(⟨(i, c), hci, him⟩ : NdIn ds cl)]).map NdIn.num = pre.map NdIn.num ++ [i]) := Lib.hid (by rw [List.map_append]; rfl)
    have hWs := hck.size
    generalize hpx : (pre ++ [(⟨(i, c), hci, him⟩ : NdIn ds cl)]) = px at HX ⊢
    have hst0 : Hid (Left W W B L M T M1 M2 v ds ss) := Lib.hid hLW.look.left
    clear hLW hck hps hpx
    gi_wp2
    gi_loopw [17] (fun iv wr => ∃ k : Nat, iv = .int .i64 k ∧ k ≤ 2 ∧ Hid (Left W wr B L M T M1 M2 v ds ss ∧ (1 ≤ k → (ownP ss i nm).length = 0) ∧ (2 ≤ k → (fromP ss (impP ss i) nm).length = 0))) (fun iv _ => 2 - (intOf iv).toNat)
    case atStart => exact ⟨0, rfl, by omega, Lib.hid ⟨hst0.out, fun h => by omega, fun h => by omega⟩⟩
    case round =>
      obtain ⟨k, rfl, hk, hP⟩ := hrel
      by_cases hlt : k < 2
      · have HKW := Lib.hid (HCK.out.trans ((hP.out.1.turns.cellsM HLW.out.look.memo).mono hWs))
        have g3 := HKW.out.cell (by omega) (HFA.out.r3.cell (i := 0) (by rfl))
        have g5 := HKW.out.cell (by omega) (HFA.out.r5.cell (i := 0) (by rfl))
        have hi2 : k = 0 ∨ k = 1 := by omega
        rcases hi2 with rfl | rfl
        · have HC := Lib.hid (CallsIn.inRound l ((callsIn_wide (n := 3)).2 (wayFrom_any HV.out hP.out.1.look HCI.out HTC.out nm 1 (by omega))))
          rw [show wayP ss i nm 1 = ownP ss i nm from rfl] at HC
          have hlen2 : (ownP ss i nm).length ≤ 25 := by
            have := ownP_length HV.out i nm; omega
          gi_wp2_with fail
          refine ⟨trivial, ?_⟩
          gi_at_call 145
          refine HC.out.mono ?_
          rintro e w3 ⟨u, rfl, hrow3, hl3⟩
          obtain ⟨ou, cu, rfl⟩ := ownsRow_slice hrow3
          have HL3 := Lib.hid (hP.out.1.trans hl3)
          have HK3 := Lib.hid (HCK.out.trans ((HL3.out.turns.cellsM HLW.out.look.memo).mono hWs))
          have HR3 : Hid (w3.ownsRow w.heap.size 34 2 (.slice ou (ownP ss i nm).length cu) (ownP ss i nm).length (placeCells (ownP ss i nm))) := Lib.hid (ownsRow_lower hrow3 (Nat.le_trans HLW.out.turns.size hP.out.1.turns.size))
          clear hrow3 hl3 g3 g5
          by_cases hpos : 0 < (ownP ss i nm).length
          · have R7 : Row w3 (w.heap.size + 1 + 1 + 1) 114 [.int .i64 (-1), .int .i64 0, .slice none 0 0] := HK3.out.block _ _ _ _ (by omega) HFA.out.r7
            have R6 : Row w3 (w.heap.size + 1 + 1) 114 [.int .i64 0, .int .i64 0, .slice none 0 0] := HK3.out.block _ _ _ _ (by omega) HFA.out.r6
            have c0 := R7.cell (i := 0) (v := .int .i64 (-1)) (by rfl)
            have c1 := R7.cell (i := 1) (v := .int .i64 0) (by rfl)
            have c2 := R7.cell (i := 2) (v := .slice none 0 0) (by rfl)
            have f0 : ∀ k, w3.frozen? ⟨w.heap.size + 1 + 1 + 1, k, none⟩ = false := fun k => R7.frozen k
            have m0 := ((HL3.out.look.tree.tree.node i c HCI.out).2.cell (i := 0) (v := .int .i64 (i : Int)) (by rfl))
            have HR7 := Lib.hid R7
            have HR6 := Lib.hid R6
            have HFN : Hid (∀ r, lookF ss (impP ss) nm (px.map NdIn.num ++ r) = ⟨(i : Int), 1, ownP ss i nm⟩) := Lib.hid (fun r => by
              rw [HX.out, List.append_assoc, passed_skip HPS.out, List.singleton_append]
              exact lookF_cons_own hpos)
            clear R7 R6
            gi_wp2
            refine ⟨?_, rfl, _, HFN, ⟨?_, ?_, .slice ou (ownP ss i nm).length cu, ?_, ?_⟩⟩
            · exact (HL3.out.turns.keepsFrom (by omega) (by omega)).trans ((((KeepsOthers.setCell _ _ _).trans (KeepsOthers.setCell _ _ _)).trans (KeepsOthers.setCell _ _ _)).from _)
            · exact Left.far HL.out (HLW.out.trans HL3.out) ((((Below.refl w.heap.size w3).setCell (p := ⟨w.heap.size + 1 + 1 + 1, 0, none⟩) (by show w.heap.size ≤ w.heap.size + 1 + 1 + 1; omega) _).setCell (p := ⟨w.heap.size + 1 + 1 + 1, 1, none⟩) (by show w.heap.size ≤ w.heap.size + 1 + 1 + 1; omega) _).setCell (p := ⟨w.heap.size + 1 + 1 + 1, 2, none⟩) (by show w.heap.size ≤ w.heap.size + 1 + 1 + 1; omega) _)
            · exact ((HR6.out.other (by show w.heap.size + 1 + 1 + 1 ≠ w.heap.size + 1 + 1; omega) _).other (by show w.heap.size + 1 + 1 + 1 ≠ w.heap.size + 1 + 1; omega) _).other (by show w.heap.size + 1 + 1 + 1 ≠ w.heap.size + 1 + 1; omega) _
            · exact ((HR7.out.set 0 _).set 1 _).set 2 _
            · exact ((HR3.out.kept (grownBy_set _ _ 0 _) (.inr (ownsRow_ne HR7.out (by decide) HR3.out).symm)).kept (grownBy_set _ _ 1 _) (.inr (ownsRow_ne HR7.out (by decide) HR3.out).symm)).kept (grownBy_set _ _ 2 _) (.inr (ownsRow_ne HR7.out (by decide) HR3.out).symm)
          · have hz0 : (ownP ss i nm).length = 0 := by omega
            have HZ := Lib.hid hz0
            have HST : Hid (Left W w3 B L M T M1 M2 v ds ss ∧ (1 ≤ 1 → (ownP ss i nm).length = 0) ∧ (2 ≤ 1 → (fromP ss (impP ss i) nm).length = 0)) := Lib.hid ⟨HL3.out, fun _ => HZ.out, fun h => by omega⟩
            gi_wp2
            exact ⟨⟨1, rfl, by omega, HST⟩, by simp only [intOf]; omega⟩
        · have HC := Lib.hid (CallsIn.inRound l ((callsIn_wide (n := 3)).2 (wayFrom_any HV.out hP.out.1.look HCI.out HTC.out nm 2 (by omega))))
          rw [show wayP ss i nm 2 = fromP ss (impP ss i) nm from rfl] at HC
          have hlen2 : (fromP ss (impP ss i) nm).length ≤ 25 := by
            have h1 := fromP_length HV.out nm (impP ss i); have h2 := impP_length HV.out i; omega
          gi_wp2_with fail
          refine ⟨trivial, ?_⟩
          gi_at_call 145
          refine HC.out.mono ?_
          rintro e w3 ⟨u, rfl, hrow3, hl3⟩
          obtain ⟨ou, cu, rfl⟩ := ownsRow_slice hrow3
          have HL3 := Lib.hid (hP.out.1.trans hl3)
          have HK3 := Lib.hid (HCK.out.trans ((HL3.out.turns.cellsM HLW.out.look.memo).mono hWs))
          have HR3 : Hid (w3.ownsRow w.heap.size 34 2 (.slice ou (fromP ss (impP ss i) nm).length cu) (fromP ss (impP ss i) nm).length (placeCells (fromP ss (impP ss i) nm))) := Lib.hid (ownsRow_lower hrow3 (Nat.le_trans HLW.out.turns.size hP.out.1.turns.size))
          clear hrow3 hl3 g3 g5
          by_cases hpos : 0 < (fromP ss (impP ss i) nm).length
          · have R7 : Row w3 (w.heap.size + 1 + 1 + 1) 114 [.int .i64 (-1), .int .i64 0, .slice none 0 0] := HK3.out.block _ _ _ _ (by omega) HFA.out.r7
            have R6 : Row w3 (w.heap.size + 1 + 1) 114 [.int .i64 0, .int .i64 0, .slice none 0 0] := HK3.out.block _ _ _ _ (by omega) HFA.out.r6
            have c0 := R7.cell (i := 0) (v := .int .i64 (-1)) (by rfl)
            have c1 := R7.cell (i := 1) (v := .int .i64 0) (by rfl)
            have c2 := R7.cell (i := 2) (v := .slice none 0 0) (by rfl)
            have f0 : ∀ k, w3.frozen? ⟨w.heap.size + 1 + 1 + 1, k, none⟩ = false := fun k => R7.frozen k
            have m0 := ((HL3.out.look.tree.tree.node i c HCI.out).2.cell (i := 0) (v := .int .i64 (i : Int)) (by rfl))
            have HR7 := Lib.hid R7
            have HR6 := Lib.hid R6
            have HFN : Hid (∀ r, lookF ss (impP ss) nm (px.map NdIn.num ++ r) = ⟨(i : Int), 2, fromP ss (impP ss i) nm⟩) := Lib.hid (fun r => by
              rw [HX.out, List.append_assoc, passed_skip HPS.out, List.singleton_append]
              exact lookF_cons_from (by have := hP.out.2.1 (by omega); omega) hpos)
            clear R7 R6
            gi_wp2
            refine ⟨?_, rfl, _, HFN, ⟨?_, ?_, .slice ou (fromP ss (impP ss i) nm).length cu, ?_, ?_⟩⟩
            · exact (HL3.out.turns.keepsFrom (by omega) (by omega)).trans ((((KeepsOthers.setCell _ _ _).trans (KeepsOthers.setCell _ _ _)).trans (KeepsOthers.setCell _ _ _)).from _)
            · exact Left.far HL.out (HLW.out.trans HL3.out) ((((Below.refl w.heap.size w3).setCell (p := ⟨w.heap.size + 1 + 1 + 1, 0, none⟩) (by show w.heap.size ≤ w.heap.size + 1 + 1 + 1; omega) _).setCell (p := ⟨w.heap.size + 1 + 1 + 1, 1, none⟩) (by show w.heap.size ≤ w.heap.size + 1 + 1 + 1; omega) _).setCell (p := ⟨w.heap.size + 1 + 1 + 1, 2, none⟩) (by show w.heap.size ≤ w.heap.size + 1 + 1 + 1; omega) _)
            · exact ((HR6.out.other (by show w.heap.size + 1 + 1 + 1 ≠ w.heap.size + 1 + 1; omega) _).other (by show w.heap.size + 1 + 1 + 1 ≠ w.heap.size + 1 + 1; omega) _).other (by show w.heap.size + 1 + 1 + 1 ≠ w.heap.size + 1 + 1; omega) _
            · exact ((HR7.out.set 0 _).set 1 _).set 2 _
            · exact ((HR3.out.kept (grownBy_set _ _ 0 _) (.inr (ownsRow_ne HR7.out (by decide) HR3.out).symm)).kept (grownBy_set _ _ 1 _) (.inr (ownsRow_ne HR7.out (by decide) HR3.out).symm)).kept (grownBy_set _ _ 2 _) (.inr (ownsRow_ne HR7.out (by decide) HR3.out).symm)
          · have hz0 : (fromP ss (impP ss i) nm).length = 0 := by omega
            have HZ := Lib.hid hz0
            have HST : Hid (Left W w3 B L M T M1 M2 v ds ss ∧ (1 ≤ 2 → (ownP ss i nm).length = 0) ∧ (2 ≤ 2 → (fromP ss (impP ss i) nm).length = 0)) := Lib.hid ⟨HL3.out, fun _ => hP.out.2.1 (by omega), fun _ => HZ.out⟩
            gi_wp2
            exact ⟨⟨2, rfl, by omega, HST⟩, by simp only [intOf]; omega⟩
      · obtain rfl : k = 2 := by omega
        have HPX : Hid (Passed ss nm (px.map NdIn.num)) := Lib.hid (by
          rw [HX.out]
          intro m hm
          rcases List.mem_append.1 hm with h | h
          · exact HPS.out m h
          · rw [List.mem_singleton] at h
            subst h
            exact ⟨hP.out.2.1 (by omega), hP.out.2.2 (by omega)⟩)
        gi_wp2
        exact ⟨hP.out.1.turns.keepsFrom (by omega) (by omega), (hP.out.1.turns.cellsM HLW.out.look.memo).mono hWs, HLW.out.trans hP.out.1, HCK.out.trans ((hP.out.1.turns.cellsM HLW.out.look.memo).mono hWs), HPX⟩
  case done =>
    rintro D xs W hD hS ⟨hLW, hck, hps⟩ hK
    have HLW := Lib.hid hLW
    have HCK := Lib.hid hck
    have R7 : Row W (w.heap.size + 1 + 1 + 1) 114 [.int .i64 (-1), .int .i64 0, .slice none 0 0] := hck.block _ _ _ _ (by omega) HFA.out.r7
    have R6 : Row W (w.heap.size + 1 + 1) 114 [.int .i64 0, .int .i64 0, .slice none 0 0] := hck.block _ _ _ _ (by omega) HFA.out.r6
    have HF : Hid (lookF ss (impP ss) nm cl = ⟨-1, 0, []⟩) := Lib.hid (by rw [← hS]; exact passed_all hps.out)
    have c0 := R7.cell (i := 0) (v := .int .i64 (-1)) (by rfl)
    have c1 := R7.cell (i := 1) (v := .int .i64 0) (by rfl)
    have c2 := R7.cell (i := 2) (v := .slice none 0 0) (by rfl)
    have d0 := R6.cell (i := 0) (v := .int .i64 0) (by rfl)
    have d1 := R6.cell (i := 1) (v := .int .i64 0) (by rfl)
    have d2 := R6.cell (i := 2) (v := .slice none 0 0) (by rfl)
    have f0 : ∀ k, W.frozen? ⟨w.heap.size + 1 + 1, k, none⟩ = false := fun k => R6.frozen k
    have HR6 := Lib.hid R6
    clear R7 R6 hLW hck hS hps
    gi_wp2
    rw [HF.out]
    exact find_end HL.out HLW.out HR6.out (World.ownsRow_nil _ _ _ _) (by omega) hK rfl
  case stop =>
    rintro D c pre W hD hSp ⟨rfl, f, hf, hFO⟩ hK
    obtain ⟨u, hr7, hown⟩ := hFO.r7
    have HF : Hid (lookF ss (impP ss) nm cl = f) := Lib.hid (by
      obtain ⟨r, hr⟩ := hSp
      rw [← hr]
      exact hf.out r)
    obtain ⟨ou, cu, rfl⟩ := ownsRow_slice hown
    have c0 := hr7.cell (i := 0) (v := .int .i64 f.scope) (by rfl)
    have c1 := hr7.cell (i := 1) (v := .int .i64 f.way) (by rfl)
    have c2 := hr7.cell (i := 2) (v := .slice ou f.places.length cu) (by rfl)
    have d0 := hFO.r6.cell (i := 0) (v := .int .i64 0) (by rfl)
    have d1 := hFO.r6.cell (i := 1) (v := .int .i64 0) (by rfl)
    have d2 := hFO.r6.cell (i := 2) (v := .slice none 0 0) (by rfl)
    have f0 : ∀ k, W.frozen? ⟨w.heap.size + 1 + 1, k, none⟩ = false := fun k => hFO.r6.frozen k
    have HFO := Lib.hid hFO
    have HOWN := Lib.hid hown
    clear hFO hr7 hown hSp hf
    gi_wp2
    rw [HF.out]
    exact find_end HL.out HFO.out.left HFO.out.r6 HOWN.out (by omega) hK rfl
end Go.Proofs.YtppgdigcopkeiaaDoor
