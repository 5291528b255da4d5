/-
  The walks of the given l3Reach and ImportCircles. Condition: the argument's memory holds the graph.
-/
import Derived.Test.YtmfglfhloahmlaaDoorWSpecLook
import Derived.Test.YtmfglfhloahmlaaDoorReach
import Derived.Test.YtmfglfhloahmlaaDoorQueue
namespace Go.Proofs.YtmfglfhloahmlaaDoor
open Go Go.RowKit Go.Maps
/-- Two lists of numbers of the call's own, and a third one that is only read, in blocks that lie apart. -/
def TwoArr (B : Nat) (w : World) (vo vt : Value) (out todo : List Nat) (u : Value) (l : List Nat) : Prop :=
  ∃ go gt, Arr w go vo (natInts out) ∧ Arr w gt vt (natInts todo) ∧ go ≠ gt ∧ B ≤ go ∧ B ≤ gt ∧ (l = [] ∨ ∃ h, Arr w h u (natInts l) ∧ go ≠ h ∧ gt ≠ h)
theorem TwoArr.below {B : Nat} {w w' : World} {vo vt u : Value} {out todo l : List Nat} (h : TwoArr B w vo vt out todo u l) (hb : Below w.heap.size w w') : TwoArr B w' vo vt out todo u l := by
  obtain ⟨go, gt, h1, h2, h3, h4, h5, h6⟩ := h
  exact ⟨go, gt, h1.below hb h1.lt, h2.below hb h2.lt, h3, h4, h5, h6.imp id fun ⟨h, k1, k2⟩ => ⟨h, k1.below hb k1.lt, k2⟩⟩
theorem TwoArr.bare {B : Nat} {w : World} {vo vt u u' : Value} {out todo l : List Nat} (h : TwoArr B w vo vt out todo u l) : TwoArr B w vo vt out todo u' [] := by
  obtain ⟨go, gt, h1, h2, h3, h4, h5, -⟩ := h
  exact ⟨go, gt, h1, h2, h3, h4, h5, .inl rfl⟩
theorem natInts_snoc (l : List Nat) (m : Nat) : natInts (l ++ [m]) = natInts l ++ [(m : Int)] := by simp [natInts]
/-- A list of one's own that is only read. -/
theorem arr_of_owns {w : World} {B : Nat} {v : Value} {l : List Nat} (h : w.ownsRow B 3 1 v l.length (numVals l)) : (l = [] ∧ v = .slice none 0 0) ∨ ∃ h, Arr w h v (natInts l) ∧ B ≤ h := by
  obtain ⟨hl, h2 | ⟨g, cap, cur, hv, hB, hh, hn, _, hs, ht⟩⟩ := h
  · exact .inl ⟨List.eq_nil_of_length_eq_zero h2.2, h2.1⟩
  · right
    refine ⟨g, ⟨0, cap, cur, by rw [natInts_length]; exact hv, hh, by omega, by rw [natInts_length]; exact hn, fun i x hx => ?_⟩, hB⟩
    have hil := (List.getElem?_eq_some_iff.1 hx).1
    rw [natInts_length] at hil
    have hx' : (numVals l)[i]? = some (.int .i64 x) := by
      unfold natInts at hx
      unfold numVals
      rw [List.getElem?_map] at hx ⊢
      cases e : l[i]? with
      | none => rw [e] at hx; cases hx
      | some m => rw [e] at hx; simp at hx; subst hx; rfl
    rw [← ht, List.getElem?_take_of_lt (by omega)] at hx'
    rw [Nat.zero_add]
    simpa using hx'
theorem grown_below1 {w w' : World} {g B : Nat} (h : w.grownBy w' (some g)) (hg : B ≤ g) (hB : B ≤ w.heap.size) : Below B w w' := (Below.refl B w).grown h hB (fun r e => by cases e; exact hg)
theorem wpList_append_out {w : World} {ops : Array Oper} {rest : List Oper} {o : Oper} {a : Act} {Q : Exit → Act → World → Prop} (hgd : o.guard = none) (s x : Operand)
    (ho : o.op = .call { callee := .builtin .append, args := #[s, x], argTypes := #[26, 26] })
    {B : Nat} {vo vt u : Value} {out todo l : List Nat} (hs : a.eval s = vo) (h : TwoArr B w vo vt out todo u l) (hl : out.length < 1000000) (hB : B ≤ w.heap.size) (ad : Addr) (c : Nat) (m : Nat) (hx : a.eval x = .slice (some ad) 1 c)
    (hnews : ∀ j u, [Value.int .i64 (m : Int)][j]? = some u → w.cell? (ad.add j) = some u)
    (hK : ∀ v' w', TwoArr B w' v' vt (out ++ [m]) todo u l → Below B w w' → wpList Tryd.prog ops Q rest (a.put o.dst v') w') : wpList Tryd.prog ops Q (o :: rest) a w := by
  obtain ⟨go, gt, h1, h2, h3, h4, h5, h6⟩ := h
  refine wpList_append_arr hgd s x ho hs h1 (by rw [natInts_length]; exact hl) ad c (m : Int) hx hnews fun v' w' g' k1 k2 k3 => ?_
  refine hK v' w' ⟨g', gt, by rw [natInts_snoc]; exact k1, h2.grown k3 (Ne.symm h3), ?_, ?_, h5, h6.imp id fun ⟨h, j1, j2, j3⟩ => ⟨h, j1.grown k3 (Ne.symm j2), ?_, j3⟩⟩ (grown_below1 k3 h4 hB)
  · rcases k2 with rfl | rfl
    · exact h3
    · have := h2.lt; omega
  · rcases k2 with rfl | rfl
    · exact h4
    · exact hB
  · rcases k2 with rfl | rfl
    · exact j2
    · have := j1.lt; omega
theorem wpList_append_todo {w : World} {ops : Array Oper} {rest : List Oper} {o : Oper} {a : Act} {Q : Exit → Act → World → Prop} (hgd : o.guard = none) (s x : Operand)
    (ho : o.op = .call { callee := .builtin .append, args := #[s, x], argTypes := #[26, 26] })
    {B : Nat} {vo vt u : Value} {out todo l : List Nat} (hs : a.eval s = vt) (h : TwoArr B w vo vt out todo u l) (hl : todo.length < 1000000) (hB : B ≤ w.heap.size) (ad : Addr) (c : Nat) (m : Nat) (hx : a.eval x = .slice (some ad) 1 c)
    (hnews : ∀ j u, [Value.int .i64 (m : Int)][j]? = some u → w.cell? (ad.add j) = some u)
    (hK : ∀ v' w', TwoArr B w' vo v' out (todo ++ [m]) u l → Below B w w' → wpList Tryd.prog ops Q rest (a.put o.dst v') w') : wpList Tryd.prog ops Q (o :: rest) a w := by
  obtain ⟨go, gt, h1, h2, h3, h4, h5, h6⟩ := h
  refine wpList_append_arr hgd s x ho hs h2 (by rw [natInts_length]; exact hl) ad c (m : Int) hx hnews fun v' w' g' k1 k2 k3 => ?_
  refine hK v' w' ⟨go, g', h1.grown k3 h3, by rw [natInts_snoc]; exact k1, ?_, h4, ?_, h6.imp id fun ⟨h, j1, j2, j3⟩ => ⟨h, j1.grown k3 (Ne.symm j3), j2, ?_⟩⟩ (grown_below1 k3 h5 hB)
  · rcases k2 with rfl | rfl
    · exact h3
    · have := h1.lt; omega
  · rcases k2 with rfl | rfl
    · exact h5
    · exact hB
  · rcases k2 with rfl | rfl
    · exact j3
    · have := j1.lt; omega
def slLen : Value → Nat
  | .slice _ n _ => n
  | _ => 0
theorem TwoArr.lens {B : Nat} {w : World} {vo vt u : Value} {out todo l : List Nat} (h : TwoArr B w vo vt out todo u l) : slLen vo = out.length ∧ slLen vt = todo.length := by
  obtain ⟨go, gt, h1, h2, -⟩ := h
  obtain ⟨_, _, rfl, -⟩ := h1.shape
  obtain ⟨_, _, rfl, -⟩ := h2.shape
  exact ⟨natInts_length _, natInts_length _⟩
theorem TwoArr.outInts {B : Nat} {w : World} {vo vt u : Value} {out todo l : List Nat} (h : TwoArr B w vo vt out todo u l) : ∃ oa cap, vo = .slice oa (natInts out).length cap ∧ HoldsInts w oa (natInts out) := by
  obtain ⟨go, gt, h1, -⟩ := h
  exact h1.ints
theorem TwoArr.todoShape {B : Nat} {w : World} {vo vt u : Value} {out todo l : List Nat} (h : TwoArr B w vo vt out todo u l) : ∃ ot ct, vt = .slice ot todo.length ct := by
  obtain ⟨go, gt, -, h2, -⟩ := h
  obtain ⟨off, c, hv, -⟩ := h2.shape
  exact ⟨_, c, by rw [hv, natInts_length]⟩
theorem TwoArr.read {B : Nat} {w : World} {vo vt u : Value} {out todo l : List Nat} (h : TwoArr B w vo vt out todo u l) (hl : l ≠ []) : ∃ h off cap, u = .slice (some ⟨h, off, none⟩) l.length cap ∧ ∀ (i m : Nat), l[i]? = some m → w.cell? ⟨h, off + i, none⟩ = some (.int .i64 (m : Int)) := by
  obtain ⟨go, gt, -, -, -, -, -, h6⟩ := h
  rcases h6 with h6 | ⟨g, h6, -⟩
  · exact absurd h6 hl
  · obtain ⟨off, cap, hv, _, hc⟩ := h6.shape
    exact ⟨g, off, cap, by rw [hv, natInts_length], fun i m hm => hc i (m : Int) (by unfold natInts; rw [List.getElem?_map, hm]; rfl)⟩
/-- The first number taken off. -/
theorem TwoArr.pop {B : Nat} {w : World} {vo vt u : Value} {out rest l : List Nat} {k : Nat} (h : TwoArr B w vo vt out (k :: rest) u l) : ∃ g off cap, vt = .slice (some ⟨g, off, none⟩) (rest.length + 1) cap ∧ rest.length + 1 ≤ cap ∧ w.cell? ⟨g, off, none⟩ = some (.int .i64 (k : Int)) ∧
    (cap = 1 → TwoArr B w vo (.slice (some ⟨g, off, none⟩) 0 0) out rest u l ∧ rest = []) ∧ (cap ≠ 1 → TwoArr B w vo (.slice (some ⟨g, off + 1, none⟩) rest.length (cap - 1)) out rest u l) := by
  obtain ⟨go, gt, h1, h2, h3, h4, h5, h6⟩ := h
  have e : natInts (k :: rest) = (k : Int) :: natInts rest := rfl
  rw [e] at h2
  obtain ⟨off, cap, hv, hc, hcell⟩ := h2.shape
  rw [List.length_cons, natInts_length] at hv hc
  subst hv
  refine ⟨gt, off, cap, rfl, hc, hcell 0 _ rfl, fun h => ?_, fun h => ?_⟩
  · subst h
    obtain ⟨k1, k2⟩ := h2.tail1
    have k3 : rest = [] := by simpa [natInts] using k1
    subst k3
    exact ⟨⟨go, gt, h1, k2, h3, h4, h5, h6⟩, rfl⟩
  · have k1 := h2.tail
    rw [natInts_length] at k1
    exact ⟨go, gt, h1, k1, h3, h4, h5, h6⟩
/-- A list to read beside the two. -/
theorem TwoArr.reading {B C : Nat} {w : World} {vo vt u' v : Value} {out todo l : List Nat} (h : TwoArr B w vo vt out todo u' []) (hC : ∀ go, (∃ xs, Arr w go vo xs ∨ Arr w go vt xs) → go < C) (hr : w.ownsRow C 3 1 v l.length (numVals l)) : TwoArr B w vo vt out todo v l := by
  obtain ⟨go, gt, h1, h2, h3, h4, h5, -⟩ := h
  refine ⟨go, gt, h1, h2, h3, h4, h5, ?_⟩
  rcases arr_of_owns hr with ⟨k1, -⟩ | ⟨g, k1, k2⟩
  · exact .inl k1
  · have a1 := hC go ⟨_, .inl h1⟩
    have a2 := hC gt ⟨_, .inr h2⟩
    exact .inr ⟨g, k1, by omega, by omega⟩
theorem Arr.block {w : World} {g : Nat} {v : Value} {xs : List Int} (h : Arr w g v xs) : v.ownBlock = some g := by
  obtain ⟨_, _, _, rfl, -⟩ := h
  rfl
/-- At the head of the inner loop: j of what k imports have been looked at. -/
structure InnerAt (ss : List Sc) (s k j no nt : Nat) (w wr : World) (oa : Option Addr) (cap : Nat) (vo vt u : Value) (out todo : List Nat) : Prop where
  arrs : TwoArr (w.heap.size + 1) wr vo vt out todo u (impP ss k)
  bfs : Bfs ss s out todo (fun m => m = k)
  from' : k = s ∨ k ∈ out
  done : ∀ m ∈ (impP ss k).take j, m ∈ out
  count : out.length + nt = todo.length + no
  more : no ≤ out.length
  box : Row wr w.heap.size 31 [.slice oa ss.length cap]
  below : Below w.heap.size w wr
structure OuterAt (ss : List Sc) (s : Nat) (w wr : World) (oa : Option Addr) (cap : Nat) (vo vt : Value) (out todo : List Nat) : Prop where
  arrs : TwoArr (w.heap.size + 1) wr vo vt out todo vo []
  bfs : Bfs ss s out todo (fun _ => False)
  box : Row wr w.heap.size 31 [.slice oa ss.length cap]
  below : Below w.heap.size w wr
  count : todo.length ≤ out.length + 1
theorem below_down {n m : Nat} {a b : World} (h : Below n a b) (hm : m ≤ n) : Below m a b := h.mono hm
/-- What l3Reach leaves. -/
def ReachGot (ss : List Sc) (s : Nat) (w : World) (e : Ending) (w' : World) : Prop := ∃ (l : List Nat) (o : Option Addr) (c : Nat), e = .returned (.slice o (natInts l).length c) ∧ HoldsInts w' o (natInts l) ∧ (∀ m, m ∈ l ↔ Reach ss s m) ∧ l.length ≤ 6 ∧ Below w.heap.size w w'
set_option maxRecDepth 100000 in
set_option maxHeartbeats 4000000 in
theorem specReach_any (ss : List Sc) (hv : Valid ss) (hf : FitsScopes ss) (oa : Option Addr) (cap : Nat) (s : Nat) (hs : s < ss.length) (w : World) (hc : HoldsScopes w oa ss) :
    Calls Tryd.prog 62 #[.agg #[.slice oa ss.length cap], .int .i64 (s : Int)] w (ReachGot ss s w) := by
  have hb0 : Below w.heap.size w (((w.alloc (.cells #[.slice oa ss.length cap] 31)).alloc (.cells #[] 3)).alloc (.cells #[.int .i64 (s : Int)] 3)) := (((Below.refl _ _).alloc (Nat.le_refl _) _).alloc (by simp) _).alloc (by simp; omega) _
  have hA : TwoArr (w.heap.size + 1) (((w.alloc (.cells #[.slice oa ss.length cap] 31)).alloc (.cells #[] 3)).alloc (.cells #[.int .i64 (s : Int)] 3)) (.slice (some ⟨w.heap.size + 1, 0, none⟩) 0 0) (.slice (some ⟨w.heap.size + 1 + 1, 0, none⟩) 1 1) [] [s] (.slice (some ⟨w.heap.size + 1, 0, none⟩) 0 0) [] := by
    have a1 := Arr.made (w.alloc (.cells #[.slice oa ss.length cap] 31))
    have a2 := Arr.one ((w.alloc (.cells #[.slice oa ss.length cap] 31)).alloc (.cells #[] 3)) (s : Int)
    rw [World.size_alloc] at a1
    rw [World.size_alloc, World.size_alloc] at a2
    refine ⟨_, _, a1.below ((Below.refl _ _).alloc (Nat.le_refl _) _) (by simp), a2, by omega, by omega, by omega, .inl rfl⟩
  have HP0 : Hid (OuterAt ss s w (((w.alloc (.cells #[.slice oa ss.length cap] 31)).alloc (.cells #[] 3)).alloc (.cells #[.int .i64 (s : Int)] 3)) oa cap (.slice (some ⟨w.heap.size + 1, 0, none⟩) 0 0) (.slice (some ⟨w.heap.size + 1 + 1, 0, none⟩) 1 1) [] [s]) :=
    Lib.hid ⟨hA, Bfs.start ss s, ((Row.new w [.slice oa ss.length cap] 31).alloc _).alloc _, hb0, Nat.le_refl _⟩
  have HC := Lib.hid hc
  have HV := Lib.hid hv
  have HF := Lib.hid hf
  have HS := Lib.hid hs
  have HN6 := Lib.hid hv.count.2
  clear hc hv hf hs hb0 hA
  go_enter Tryd.func62, Tryd.ntmps62
  go_wp2
  go_loopw [5, 6] (fun vo vt wr => ∃ out todo : List Nat, Hid (OuterAt ss s w wr oa cap vo vt out todo)) (fun vo vt _ => 2 * (6 - slLen vo) + slLen vt)
  case atStart => exact ⟨[], [s], HP0⟩
  case round =>
    obtain ⟨out, todo, hP⟩ := hrel
    cases todo with
    | nil =>
      obtain ⟨oo, co, rfl, ho⟩ := hP.out.arrs.outInts
      have hlt := hP.out.arrs.lens.2
      obtain ⟨go, gt, -, h2, -⟩ := hP.out.arrs
      obtain ⟨off, capt, rfl, -⟩ := h2.shape
      have HO := Lib.hid ho
      clear ho hlt h2
      have e0 : (natInts ([] : List Nat)).length = 0 := rfl
      rw [e0]
      clear e0
      go_wp2
      go_ret
      exact ⟨out, oo, co, rfl, HO.out, hP.out.bfs.reach, Nat.le_trans hP.out.bfs.length HN6.out, hP.out.below⟩
    | cons k rest =>
      obtain ⟨gt, off, capt, rfl, hcl, x0, hp1, hp2⟩ := hP.out.arrs.pop
      obtain ⟨oo, co, rfl, -⟩ := hP.out.arrs.outInts
      have hks : k < ss.length := by
        rcases hP.out.bfs.sub k List.mem_cons_self with rfl | h
        · exact HS.out
        · exact hP.out.bfs.lt k h
      have HKS := Lib.hid hks
      have hol := hP.out.bfs.length
      have hn6 := HN6.out
      have HCNT := Lib.hid hP.out.count
      have hrl := hP.out.count
      rw [List.length_cons] at hrl
      obtain ⟨a', ha'⟩ : ∃ a', (if capt = 1 then some (⟨gt, off, none⟩ : Addr) else some (⟨gt, off + 1, none⟩ : Addr)) = a' := ⟨_, rfl⟩
      have HA : Hid (TwoArr (w.heap.size + 1) wr (.slice oo (natInts out).length co) (.slice a' rest.length (capt - 1)) out rest (.slice oo (natInts out).length co) []) := Lib.hid (by
        rw [← ha']
        by_cases h1 : capt = 1
        · obtain ⟨k1, k2⟩ := hp1 h1
          subst h1 k2
          exact k1
        · rw [if_neg h1]
          exact hp2 h1)
      have HSPLIT : Hid (k = s ∨ k ∈ out) := Lib.hid (hP.out.bfs.sub k List.mem_cons_self)
      have HPOP := Lib.hid hP.out.bfs.pop
      have g0 := hP.out.box.cell (i := 0) (by rfl)
      have C := Lib.hid (specImported_any ss HV.out HF.out oa cap k hks wr (HC.out.below hP.out.below (Nat.le_refl _)))
      have HIF := Lib.hid ha'
      clear hp1 hp2 hks ha'
      go_upto_region 6 with (fail)
      rw [HIF.out]
      clear x0
      go_wp2_with fail
      refine C.out.mono ?_
      rintro e w1 ⟨u, rfl, hrow, hb1⟩
      have HB1 := Lib.hid (hP.out.below.trans (hb1.mono hP.out.below.size))
      have HBOX1 := Lib.hid (hP.out.box.below hb1 hP.out.box.lt)
      have HI : Hid (InnerAt ss s k 0 out.length rest.length w w1 oa cap (.slice oo (natInts out).length co) (.slice a' rest.length (capt - 1)) u out rest) := Lib.hid
        { arrs := (HA.out.below hb1).reading (fun go ⟨xs, h⟩ => by
            obtain ⟨go1, gt1, h1, h2, -⟩ := HA.out
            rcases h with h | h
            · have e := h.block.symm.trans h1.block
              cases e
              exact h1.lt
            · have e := h.block.symm.trans h2.block
              cases e
              exact h2.lt) hrow
          bfs := HPOP.out
          from' := HSPLIT.out
          done := by simp
          count := by omega
          more := Nat.le_refl _
          box := HBOX1.out
          below := HB1.out }
      obtain ⟨ou, cu, rfl⟩ : ∃ ou cu, u = .slice ou (impP ss k).length cu := by
        obtain ⟨ou, cu, rfl, -⟩ := holdsInts_of_owns hrow
        exact ⟨ou, cu, by rw [natInts_length]⟩
      have hil := impP_length HV.out k
      clear hrow hb1 g0
      go_wp2
      go_loopw [5, 6, 25] (fun vo vt i wr2 => ∃ (j : Nat) (out' todo' : List Nat), i = .int .i64 j ∧ j ≤ (impP ss k).length ∧ Hid (InnerAt ss s k j out.length rest.length w wr2 oa cap vo vt (.slice ou (impP ss k).length cu) out' todo')) (fun _ _ i _ => (impP ss k).length - (intOf i).toNat)
      case atStart => exact ⟨0, out, rest, rfl, Nat.zero_le _, HI⟩
      case round =>
        obtain ⟨j, out2, todo2, rfl, hj, hQ⟩ := hrel
        obtain ⟨oo2, co2, rfl, ho2⟩ := hQ.out.arrs.outInts
        have HLENS := Lib.hid hQ.out.arrs.lens
        obtain ⟨ot2, ct2, rfl⟩ := hQ.out.arrs.todoShape
        have hol2 := hQ.out.bfs.length
        have hcnt2 := hQ.out.count
        by_cases hlt : j < (impP ss k).length
        · obtain ⟨m, hm⟩ : ∃ m, (impP ss k)[j]? = some m := ⟨_, List.getElem?_eq_getElem hlt⟩
          obtain ⟨bh, fh, ch, hu, hcell⟩ := hQ.out.arrs.read (by intro e; rw [e] at hlt; simp at hlt)
          simp only [Value.slice.injEq, true_and] at hu
          obtain ⟨rfl, rfl⟩ := hu
          have x1 := hcell j m hm
          have HM := Lib.hid hm
          have HIM := Lib.hid (List.mem_of_getElem? hm)
          have HTK : Hid ((impP ss k).take (j + 1) = (impP ss k).take j ++ [m]) := Lib.hid (by rw [List.take_add_one, hm]; rfl)
          have HNL : Hid ((natInts out2).length < 2 ^ 40) := Lib.hid (by rw [natInts_length]; omega)
          have HO2 := Lib.hid ho2
          clear hm hcell ho2
          go_wp2_with fail
          refine (l2In_any (natInts out2) oo2 co2 (m : Int) _ HNL.out HO2.out).mono ?_
          rintro e w3 ⟨rfl, hb3⟩
          obtain ⟨q, hq2⟩ : ∃ q, decide ((m : Int) ∈ natInts out2) = q := ⟨_, rfl⟩
          rw [hq2]
          have HQ := Lib.hid hq2
          have HA3 := Lib.hid (hQ.out.arrs.below hb3)
          have HB3 := Lib.hid (hQ.out.below.trans (hb3.mono hQ.out.below.size))
          have HBOX3 := Lib.hid (hQ.out.box.below hb3 hQ.out.box.lt)
          clear hb3 hq2 x1
          cases q
          · have HNI : Hid (m ∉ out2) := Lib.hid (fun h => by have := HQ.out; simp [mem_natInts.2 h] at this)
            have HPU := Lib.hid (hQ.out.bfs.push HV.out hQ.out.from' HIM.out HNI.out)
            have hbs3 : w.heap.size + 1 ≤ w3.heap.size := HBOX3.out.lt
            have hno2 : out2.length < 1000000 := by omega
            have hnt2 : todo2.length < 1000000 := by omega
            go_wp2_with (at_builtin; refine wpList_append_out rfl _ _ rfl (B := w.heap.size + 1) rfl (HA3.out.below ((Below.refl _ _).alloc (Nat.le_refl _) _)) hno2 (by simp only [World.size_alloc]; omega) ⟨w3.heap.size, 0, none⟩ 1 m rfl (cells_new _ _ _) ?_)
            intro v4 w4 hA4 hb4
            have HA4 := Lib.hid hA4
            have HB4 := Lib.hid (((HB3.out.alloc HB3.out.size (.cells #[.int .i64 (m : Int)] 3))).trans (hb4.mono (Nat.le_succ _)))
            have HBOX4 := Lib.hid ((HBOX3.out.alloc (.cells #[.int .i64 (m : Int)] 3)).below hb4 (Nat.lt_succ_self _))
            have hbs4 : w.heap.size + 1 ≤ w4.heap.size := HBOX4.out.lt
            clear hA4 hb4
            go_wp2_with (at_builtin; refine wpList_append_todo rfl _ _ rfl (B := w.heap.size + 1) rfl (HA4.out.below ((Below.refl _ _).alloc (Nat.le_refl _) _)) hnt2 (by simp only [World.size_alloc]; omega) ⟨w4.heap.size, 0, none⟩ 1 m rfl (cells_new _ _ _) ?_)
            intro v5 w5 hA5 hb5
            have HR : Hid (InnerAt ss s k (j + 1) out.length rest.length w w5 oa cap v4 v5 (.slice (some ⟨bh, fh, none⟩) (impP ss k).length cu) (out2 ++ [m]) (todo2 ++ [m])) := Lib.hid
              { arrs := hA5
                bfs := HPU.out
                from' := hQ.out.from'.imp id fun h => List.mem_append_left _ h
                done := fun x hx => by
                  rw [HTK.out, List.mem_append] at hx
                  rcases hx with hx | hx
                  · exact List.mem_append_left _ (hQ.out.done x hx)
                  · exact List.mem_append_right _ hx
                count := by have := hQ.out.count; simp only [List.length_append, List.length_singleton]; omega
                more := by have := hQ.out.more; simp only [List.length_append, List.length_singleton]; omega
                box := (HBOX4.out.alloc (.cells #[.int .i64 (m : Int)] 3)).below hb5 (Nat.lt_succ_self _)
                below := (HB4.out.alloc HB4.out.size (.cells #[.int .i64 (m : Int)] 3)).trans (hb5.mono (Nat.le_succ _)) }
            clear hA5 hb5
            go_wp2
            go_roundw
            case rel => exact ⟨j + 1, _, _, by go_num, by omega, HR⟩
            case measure => simp only [intOf]; omega
          · have HNI : Hid (m ∈ out2) := Lib.hid (mem_natInts.1 (by have := HQ.out; simpa using this))
            have HR : Hid (InnerAt ss s k (j + 1) out.length rest.length w w3 oa cap (.slice oo2 (natInts out2).length co2) (.slice ot2 todo2.length ct2) (.slice (some ⟨bh, fh, none⟩) (impP ss k).length cu) out2 todo2) := Lib.hid
              { hQ.out with
                arrs := HA3.out
                done := fun x hx => by
                  rw [HTK.out, List.mem_append] at hx
                  rcases hx with hx | hx
                  · exact hQ.out.done x hx
                  · rw [List.mem_singleton] at hx
                    exact hx ▸ HNI.out
                box := HBOX3.out
                below := HB3.out }
            go_wp2
            go_roundw
            case rel => exact ⟨j + 1, _, _, by go_num, by omega, HR⟩
            case measure => simp only [intOf]; omega
        · obtain rfl : j = (impP ss k).length := by omega
          have HR : Hid (OuterAt ss s w _ oa cap (.slice oo2 (natInts out2).length co2) (.slice ot2 todo2.length ct2) out2 todo2 ∧ 2 * (6 - out2.length) + todo2.length < 2 * (6 - out.length) + (rest.length + 1)) := Lib.hid ⟨
            { arrs := hQ.out.arrs.bare
              bfs := hQ.out.bfs.done (by have := hQ.out.done; rwa [List.take_length] at this)
              box := hQ.out.box
              below := hQ.out.below
              count := by have := hQ.out.more; have := hQ.out.count; have := HCNT.out; simp only [List.length_cons] at this; omega }, by have := hQ.out.more; have := hQ.out.count; omega⟩
          have e1 : (natInts out).length = out.length := natInts_length _
          have e2 : (natInts out2).length = out2.length := natInts_length _
          go_wp2
          go_roundw
          case rel => exact ⟨out2, todo2, Lib.hid HR.out.1⟩
          case measure => simp only [slLen, e1, e2]; exact HR.out.2
set_option maxRecDepth 100000 in
set_option maxHeartbeats 4000000 in
theorem specCircles_any (ss : List Sc) (hf : FitsScopes ss) (oa : Option Addr) (cap : Nat) (w : World) (hc : HoldsScopes w oa ss) :
    Calls Tryd.prog 16 #[.agg #[.slice oa ss.length cap]] w (ListGot2 (Valid ss) (circP ss) w) := by
  have hb0 := ((Below.refl w.heap.size w).alloc (Nat.le_refl _) (.cells #[.slice oa ss.length cap] 31)).alloc (by simp) (.cells #[] 3)
  have C := Lib.hid (specValid_any ss oa cap _ hf (hc.below hb0 (Nat.le_refl _)))
  have R := Lib.hid ((Row.new w [.slice oa ss.length cap] 31).alloc (.cells #[] 3))
  have hown0 : ((w.alloc (.cells #[.slice oa ss.length cap] 31)).alloc (.cells #[] 3)).ownsRow w.heap.size 3 1 (.slice (some ⟨w.heap.size + 1, 0, none⟩) 0 0) 0 [] := by
    have h0 := World.ownsRow_made (base := w.heap.size) (e := 3) (size := 1) (w.alloc (.cells #[.slice oa ss.length cap] 31)) #[] 0 (by simp) (by unfold maxLen; omega) rfl
    rw [World.size_alloc] at h0
    exact h0
  have HB0 := Lib.hid hb0
  have HC := Lib.hid hc
  have HF := Lib.hid hf
  have HO := Lib.hid hown0
  clear hf hc hb0 hown0
  go_enter Tryd.func16, Tryd.ntmps16
  go_wp2_with fail
  refine C.out.mono ?_
  rintro e w1 ⟨b, rfl, hv, hb⟩
  have HB := Lib.hid (HB0.out.trans (hb.mono HB0.out.size))
  have R1 := Lib.hid (R.out.below hb R.out.lt)
  have HO1 := Lib.hid (ownsRow_below HO.out hb)
  have c1 := R1.out.cell (i := 0) (by rfl)
  have HV := Lib.hid hv
  clear hb hv
  cases b
  · have HN : Hid (¬ Valid ss) := Lib.hid (fun h => by have := HV.out.2 h; cases this)
    go_wp2
    go_ret2
    exact .inl ⟨HN.out, _, rfl, HB.out⟩
  · have HH := Lib.hid (HV.out.1 rfl)
    have h6 := HH.out.count.2
    go_wp2
    go_loopw [4, 14] (fun v i wr => ∃ k : Nat, i = .int .i64 k ∧ k ≤ ss.length ∧ Row wr w.heap.size 31 [.slice oa ss.length cap] ∧ wr.ownsRow w.heap.size 3 1 v (circUp ss k).length (numVals (circUp ss k)) ∧ Below w.heap.size w wr) (fun _ i _ => ss.length - (intOf i).toNat)
    case atStart => exact ⟨0, rfl, Nat.zero_le _, R1.out, HO1.out, HB.out⟩
    case round =>
      obtain ⟨k, rfl, hk, hR, hrow, hb⟩ := hrel
      have HROW := Lib.hid hrow
      have HBR := Lib.hid hb
      have HRR := Lib.hid hR
      by_cases hlt : k < ss.length
      · have g0 := hR.cell (i := 0) (by rfl)
        have hpl := circUp_length ss k
        have HST := Lib.hid (circUp_snoc ss k)
        have hbs := hb.size
        have C2 := Lib.hid (specReach_any ss HH.out HF.out oa cap k hlt wr (HC.out.below HBR.out (Nat.le_refl _)))
        clear hR hb hrow
        go_wp2_with fail
        refine C2.out.mono ?_
        rintro e w2 ⟨l, o2, cap2, rfl, hh2, hmem, hl6, hb2⟩
        have HB2 := Lib.hid (HBR.out.trans (hb2.mono hbs))
        have R2 := Lib.hid (HRR.out.below hb2 HRR.out.lt)
        have HR2 := Lib.hid (ownsRow_below HROW.out hb2)
        have H2 := Lib.hid hh2
        have HNL : Hid ((natInts l).length < 2 ^ 40) := Lib.hid (by rw [natInts_length]; omega)
        have HQK : Hid (decide ((k : Int) ∈ natInts l) = reachB ss k k) := Lib.hid (by
          rw [Bool.eq_iff_iff, decide_eq_true_iff, mem_natInts, hmem, reachB_iff])
        clear hb2 hh2 g0 hmem
        go_wp2_with fail
        refine (l2In_any (natInts l) o2 cap2 (k : Int) _ HNL.out H2.out).mono ?_
        rintro e w3 ⟨rfl, hb3⟩
        rw [HQK.out]
        have HB3 := Lib.hid (HB2.out.trans (hb3.mono HB2.out.size))
        have R3 := Lib.hid (R2.out.below hb3 R2.out.lt)
        have hrow3 := ownsRow_below HR2.out hb3
        have hbs3 := HB3.out.size
        have HR3 := Lib.hid hrow3
        have g3 := R3.out.cell (i := 0) (by rfl)
        clear hb3
        cases hq : reachB ss k k
        · have HE : Hid (circUp ss (k + 1) = circUp ss k) := Lib.hid (by rw [HST.out, hq]; simp)
          clear hrow3 hq
          go_wp2
          go_roundw
          case rel => exact ⟨k + 1, by go_num, by omega, R3.out, by rw [HE.out]; exact HR3.out, HB3.out⟩
          case measure => simp only [intOf]; omega
        · have HE : Hid (circUp ss (k + 1) = circUp ss k ++ [k]) := Lib.hid (by rw [HST.out, hq]; simp)
          obtain ⟨i0, hi0, hz0, hz1, hz2⟩ := info_parts infoInt
          clear hq
          go_wp2_with (at_builtin; refine wpList_append_own _ rfl _ _ 26 rfl w.heap.size 3 i0 (.int .i64 0) 1 8 Tryd.underlying26 hi0 hz0 hz1 hz2 rfl (by decide) _ _ _ rfl (hrow3.alloc _) ⟨w3.heap.size, 0, none⟩ 1 1 [.int .i64 (k : Int)] rfl rfl ?c1 ?c2 ?c3 ?c4 ?c5 ?_)
          case c1 => exact cells_new _ _ _
          case c2 => intro u hu; simp only [List.mem_singleton] at hu; subst hu; rfl
          case c3 => unfold maxLen; omega
          case c4 => omega
          case c5 => simp only [World.size_alloc]; omega
          intro v' w4 hown' hgrow _
          have HB4 := Lib.hid (HB3.out.trans (below_append HR3.out hgrow (Nat.le_refl w.heap.size) hbs3))
          have HR4 : Hid (Row w4 w.heap.size 31 [.slice oa ss.length cap]) := Lib.hid ((R3.out.alloc _).grown hgrow (ownsRow_ne R3.out (by decide) HR3.out))
          have HO4 := Lib.hid hown'
          clear hrow3 hown' hgrow
          go_wp2
          go_roundw
          case rel => exact ⟨k + 1, by go_num, by omega, HR4.out, by rw [HE.out, List.length_append, numVals_snoc]; exact HO4.out, HB4.out⟩
          case measure => simp only [intOf]; omega
      · obtain rfl : k = ss.length := by omega
        clear hR hb hrow
        go_wp2
        go_ret2
        exact .inr ⟨HH.out, _, rfl, HROW.out, HBR.out⟩
end Go.Proofs.YtmfglfhloahmlaaDoor
